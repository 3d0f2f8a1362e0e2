/- Like statements are told the same in all fields; no statement of the seat is proved here. -/
import Derived.Test.YtcoeinfopfcekaaTrV
import Derived.Test.YtcoeinfopfcekaaIlH
namespace Go.Proofs.Ytcoeinfopfcekaa
set_option linter.unusedVariables false
open Go.RowKit
theorem nms_self (b : ByteArray) : (b.toList != b.toList) = false := by simp
/-- Rows of like statements are told the same. -/
def PsL (d : Nat) : Prop := ∀ (w : World) (x x' : Option Addr) (l : List St) (c c' : Nat), StL (fun b => b < w.heap.size) d w x l → StL (fun b => b < w.heap.size) d w x' l →
  Calls Try.prog 25 #[.slice x l.length c, .slice x' l.length c'] w fun e w' => e = .returned (.bool true) ∧ Below w.heap.size w w'
set_option maxRecDepth 1000000 in
set_option maxHeartbeats 8000000 in
theorem plainDL (d : Nat) (x y : Option Addr) (l : List St) (c c2 : Nat) (w : World) (ha : StL (fun b => b < w.heap.size) (d + 1) w x l) (hb : StL (fun b => b < w.heap.size) (d + 1) w y l)
    (hL : l ≠ [] → PsL d) :
    Calls Try.prog 25 #[.slice x l.length c, .slice y l.length c2] w fun e w' => e = .returned (.bool true) ∧ Below w.heap.size w w' := by
  have HA : Hid (StL (fun b => b < w.heap.size) (d + 1) w x l) := ha
  have HB : Hid (StL (fun b => b < w.heap.size) (d + 1) w y l) := hb
  have HL : Hid (l ≠ [] → PsL d) := hL
  clear ha hb hL
  go_enter Try.func25, Try.ntmps25
  go_wp2_with fail
  go_loopw [15] (fun i wr => ∃ k : Nat, k ≤ l.length ∧ i = .int .i64 k ∧ Below w.heap.size w wr) (fun i _ => l.length - (intOf i).toNat)
  case atStart => exact ⟨0, Nat.zero_le _, rfl, Below.refl _ _⟩
  case round =>
    obtain ⟨k, hk, rfl, hbw⟩ := hrel
    have HW : Hid (Below w.heap.size w wr) := hbw
    by_cases hlt : k < l.length
    · obtain ⟨a, rfl⟩ : ∃ a, x = some a := by
        cases x with
        | none => have := HA.out.2.1 rfl; rw [this] at hlt; exact absurd hlt (Nat.not_lt_zero _)
        | some a => exact ⟨a, rfl⟩
      obtain ⟨b, rfl⟩ : ∃ b, y = some b := by
        cases y with
        | none => have := HB.out.2.1 rfl; rw [this] at hlt; exact absurd hlt (Nat.not_lt_zero _)
        | some b => exact ⟨b, rfl⟩
      obtain ⟨h1, es1, ns1, os1, on1, rs1, b1, e1, p10, q10, p11, q11, p12, q12, p13, q13, p14, q14, p15, q15, p16, q16, ee1, hp1, ec1, ev1⟩ := (HA.out.fr (old_fr hbw)).el k hlt
      obtain ⟨h2, es2, ns2, os2, on2, rs2, b2, e2, p20, q20, p21, q21, p22, q22, p23, q23, p24, q24, p25, q25, p26, q26, ee2, hp2, ec2, ev2⟩ := (HB.out.fr (old_fr hbw)).el k hlt
      have ee := Option.some.inj (ee1.symm.trans ee2)
      cases ee
      have V1 : Hid (SvF (fun b => b < w.heap.size) d wr (SV h1 (.slice p10 es1.length q10) (.slice p11 ns1.length q11) (.slice p12 os1.length q12) (.slice p13 on1.length q13) (.slice p14 rs1.length q14) (.slice p15 b1.length q15) (.slice p16 e1.length q16)) (St.mk h1 es1 ns1 os1 on1 rs1 b1 e1)) := ev1
      have V2 : Hid (SvF (fun b => b < w.heap.size) d wr (SV h1 (.slice p20 es1.length q20) (.slice p21 ns1.length q21) (.slice p22 os1.length q22) (.slice p23 on1.length q23) (.slice p24 rs1.length q24) (.slice p25 b1.length q25) (.slice p26 e1.length q26)) (St.mk h1 es1 ns1 os1 on1 rs1 b1 e1)) := ev2
      have LT : Hid (k < l.length) := hlt
      have kl : (k : Int) < l.length := by omega
      obtain ⟨x0, x1, x2, x3, x4, x5, x6, x7, x8, x9, x10, x11, x12, x13⟩ := ec1
      obtain ⟨y0, y1, y2, y3, y4, y5, y6, y7, y8, y9, y10, y11, y12, y13⟩ := ec2
      clear hbw hlt ee1 ee2 ev1 ev2 hp1 hp2
      have za := block_lt_of_cell x0
      have zb := block_lt_of_cell y0
      go_upto_region 6 with fail
      go_cut [6, 7] (fun s6 s7 wx => ∃ hx hy, s6 = .pointer (some ⟨hx, 0, none⟩) ∧ s7 = .pointer (some ⟨hy, 0, none⟩) ∧ BxS wx hx h1 (.slice p10 es1.length q10) (.slice p11 ns1.length q11) (.slice p12 os1.length q12) (.slice p13 on1.length q13) (.slice p14 rs1.length q14) (.slice p15 b1.length q15) (.slice p16 e1.length q16) ∧ BxS wx hy h1 (.slice p20 es1.length q20) (.slice p21 ns1.length q21) (.slice p22 os1.length q22) (.slice p23 on1.length q23) (.slice p24 rs1.length q24) (.slice p25 b1.length q25) (.slice p26 e1.length q26) ∧ wr.heap.size ≤ hx ∧ wr.heap.size ≤ hy ∧ Below wr.heap.size wr wx)
      case first =>
        have cx : ∀ W : World, Below wr.heap.size wr W → ∀ o, W.cell? ⟨(a.add (k * 14)).block, o, none⟩ = wr.cell? ⟨(a.add (k * 14)).block, o, none⟩ := fun W hb o => hb.cell (p := ⟨(a.add (k * 14)).block, o, none⟩) za
        have cx0 : ∀ W : World, Below wr.heap.size wr W → W.cell? (a.add (k * 14)) = wr.cell? (a.add (k * 14)) := fun W hb => hb.cell (p := a.add (k * 14)) za
        have cy : ∀ W : World, Below wr.heap.size wr W → ∀ o, W.cell? ⟨(b.add (k * 14)).block, o, none⟩ = wr.cell? ⟨(b.add (k * 14)).block, o, none⟩ := fun W hb o => hb.cell (p := ⟨(b.add (k * 14)).block, o, none⟩) zb
        have cy0 : ∀ W : World, Below wr.heap.size wr W → W.cell? (b.add (k * 14)) = wr.cell? (b.add (k * 14)) := fun W hb => hb.cell (p := b.add (k * 14)) zb
        refine wp_region_held_drew (S := fun w' => Below wr.heap.size wr w') (by kernel_rfl) ((Below.refl _ _).drew) (fun hHeld => ?_)
        refine wpAnyH_take (i := 0) (v := .slice (some a) l.length c) rfl (by kernel_rfl) (by kernel_rfl) (by kernel_rfl) (fun _ _ _ h => h) (Or.inl ⟨by rfl, fun W hW => ?_⟩) hHeld ?_
        · go_simp
        simp only [Act.put, List.setIfInBounds_toArray]
        refine wpAnyH_take (i := 1) (v := .int .i64 k) rfl (by kernel_rfl) (by kernel_rfl) (by kernel_rfl) (fun _ _ _ h => h) (Or.inl ⟨by rfl, fun W hW => ?_⟩) hHeld ?_
        · go_simp
        simp only [Act.put]
        refine wpAnyH_take (i := 2) (v := .pointer (some (a.add (k * 14)))) rfl (by kernel_rfl) (by kernel_rfl) (by kernel_rfl) (fun _ _ _ h => h) (Or.inl ⟨by rfl, fun W hW => ?_⟩) hHeld ?_
        · go_simp
        simp only [Act.put]
        refine wpAnyH_take (i := 3) (v := .agg ([.int .i64 h1.op, .int .i64 h1.pl, .string h1.nm, .int .i64 h1.nu, .slice p10 es1.length q10, .slice p11 ns1.length q11, .slice p12 os1.length q12, .slice p13 on1.length q13, .slice p14 rs1.length q14, .slice p15 b1.length q15, .slice p16 e1.length q16, .int .u8 h1.kd, .int .i64 h1.ar, .int .i64 h1.rf] : List Value).toArray) rfl (by kernel_rfl) (by kernel_rfl) (by kernel_rfl) (fun _ _ _ h => h) (Or.inl ⟨by rfl, fun W hW => ?_⟩) hHeld ?_
        · go_simp
        simp only [Act.put]
        refine wpAnyH_take (i := 4) (v := .slice (some b) l.length c2) rfl (by kernel_rfl) (by kernel_rfl) (by kernel_rfl) (fun _ _ _ h => h) (Or.inl ⟨by rfl, fun W hW => ?_⟩) hHeld ?_
        · go_simp
        simp only [Act.put]
        refine wpAnyH_take (i := 5) (v := .int .i64 k) rfl (by kernel_rfl) (by kernel_rfl) (by kernel_rfl) (fun _ _ _ h => h) (Or.inl ⟨by rfl, fun W hW => ?_⟩) hHeld ?_
        · go_simp
        simp only [Act.put]
        refine wpAnyH_take (i := 6) (v := .pointer (some (b.add (k * 14)))) rfl (by kernel_rfl) (by kernel_rfl) (by kernel_rfl) (fun _ _ _ h => h) (Or.inl ⟨by rfl, fun W hW => ?_⟩) hHeld ?_
        · go_simp
        simp only [Act.put]
        refine wpAnyH_take (i := 7) (v := .agg ([.int .i64 h1.op, .int .i64 h1.pl, .string h1.nm, .int .i64 h1.nu, .slice p20 es1.length q20, .slice p21 ns1.length q21, .slice p22 os1.length q22, .slice p23 on1.length q23, .slice p24 rs1.length q24, .slice p25 b1.length q25, .slice p26 e1.length q26, .int .u8 h1.kd, .int .i64 h1.ar, .int .i64 h1.rf] : List Value).toArray) rfl (by kernel_rfl) (by kernel_rfl) (by kernel_rfl) (fun _ _ _ h => h) (Or.inl ⟨by rfl, fun W hW => ?_⟩) hHeld ?_
        · go_simp
        simp only [Act.put]
        refine wpAnyH_ready (rs := [8, 9]) (by kernel_rfl) (by simp) ?_
        refine AllReadyH.cons (o := _) rfl (fun K hK => ?_) (AllReadyH.cons (o := _) rfl (fun K hK => ?_) AllReadyH.nil)
        · go_simp
          refine hK.out _ _ (by go_grown) (fun hHeld => ?_)
          clear hK K
          refine wpAnyH_ready (rs := [9]) (by kernel_rfl) (by simp) ?_
          refine AllReadyH.cons (o := _) rfl (fun K hK => ?_) AllReadyH.nil
          go_simp
          refine hK.out _ _ (by go_grown) (fun hHeld => ?_)
          clear hK K
          have T1 : ((wr.alloc (.cells #[.int .i64 0, .int .i64 0, .string ⟨#[]⟩, .int .i64 0, .slice none 0 0, .slice none 0 0, .slice none 0 0, .slice none 0 0, .slice none 0 0, .slice none 0 0, .slice none 0 0, .int .u8 0, .int .i64 0, .int .i64 0] 65)).alloc (.cells #[.int .i64 0, .int .i64 0, .string ⟨#[]⟩, .int .i64 0, .slice none 0 0, .slice none 0 0, .slice none 0 0, .slice none 0 0, .slice none 0 0, .slice none 0 0, .slice none 0 0, .int .u8 0, .int .i64 0, .int .i64 0] 65)).there (wr.heap.size) 0 14 := (there2 wr _ _ rfl).1
          have T2 : ((wr.alloc (.cells #[.int .i64 0, .int .i64 0, .string ⟨#[]⟩, .int .i64 0, .slice none 0 0, .slice none 0 0, .slice none 0 0, .slice none 0 0, .slice none 0 0, .slice none 0 0, .slice none 0 0, .int .u8 0, .int .i64 0, .int .i64 0] 65)).alloc (.cells #[.int .i64 0, .int .i64 0, .string ⟨#[]⟩, .int .i64 0, .slice none 0 0, .slice none 0 0, .slice none 0 0, .slice none 0 0, .slice none 0 0, .slice none 0 0, .slice none 0 0, .int .u8 0, .int .i64 0, .int .i64 0] 65)).there (wr.heap.size + 1) 0 14 := (there2 wr _ _ rfl).2
          have T3 := bl_two wr (.cells #[.int .i64 0, .int .i64 0, .string ⟨#[]⟩, .int .i64 0, .slice none 0 0, .slice none 0 0, .slice none 0 0, .slice none 0 0, .slice none 0 0, .slice none 0 0, .slice none 0 0, .int .u8 0, .int .i64 0, .int .i64 0] 65) (.cells #[.int .i64 0, .int .i64 0, .string ⟨#[]⟩, .int .i64 0, .slice none 0 0, .slice none 0 0, .slice none 0 0, .slice none 0 0, .slice none 0 0, .slice none 0 0, .slice none 0 0, .int .u8 0, .int .i64 0, .int .i64 0] 65)
          generalize (wr.alloc (.cells #[.int .i64 0, .int .i64 0, .string ⟨#[]⟩, .int .i64 0, .slice none 0 0, .slice none 0 0, .slice none 0 0, .slice none 0 0, .slice none 0 0, .slice none 0 0, .slice none 0 0, .int .u8 0, .int .i64 0, .int .i64 0] 65)).alloc (.cells #[.int .i64 0, .int .i64 0, .string ⟨#[]⟩, .int .i64 0, .slice none 0 0, .slice none 0 0, .slice none 0 0, .slice none 0 0, .slice none 0 0, .slice none 0 0, .slice none 0 0, .int .u8 0, .int .i64 0, .int .i64 0] 65) = W2 at T1 T2 T3 hHeld ⊢
          refine wpAnyH_ready (rs := [10]) (by kernel_rfl) (by simp) ?_
          refine AllReadyH.cons (o := _) rfl (fun K hK => ?_) AllReadyH.nil
          rw [if_pos (by rfl)]
          refine wp_store_mid 65 _ _ rfl (wr.heap.size) 0 ([.int .i64 h1.op, .int .i64 h1.pl, .string h1.nm, .int .i64 h1.nu, .slice p10 es1.length q10, .slice p11 ns1.length q11, .slice p12 os1.length q12, .slice p13 on1.length q13, .slice p14 rs1.length q14, .slice p15 b1.length q15, .slice p16 e1.length q16, .int .u8 h1.kd, .int .i64 h1.ar, .int .i64 h1.rf] : List Value).toArray rfl rfl ?_ (by kernel_rfl) (all_oneCell_toArray (by intro v hv; simp at hv; rcases hv with rfl | rfl | rfl | rfl | rfl | rfl | rfl | rfl | rfl | rfl | rfl | rfl | rfl | rfl <;> rfl)) ?_
          · exact T1
          have R1 := World.rangeAt_setCells_same W2.drew (wr.heap.size) 0 [.int .i64 h1.op, .int .i64 h1.pl, .string h1.nm, .int .i64 h1.nu, .slice p10 es1.length q10, .slice p11 ns1.length q11, .slice p12 os1.length q12, .slice p13 on1.length q13, .slice p14 rs1.length q14, .slice p15 b1.length q15, .slice p16 e1.length q16, .int .u8 h1.kd, .int .i64 h1.ar, .int .i64 h1.rf] T1
          have T4 := World.there_setCells T2 (wr.heap.size) 0 [.int .i64 h1.op, .int .i64 h1.pl, .string h1.nm, .int .i64 h1.nu, .slice p10 es1.length q10, .slice p11 ns1.length q11, .slice p12 os1.length q12, .slice p13 on1.length q13, .slice p14 rs1.length q14, .slice p15 b1.length q15, .slice p16 e1.length q16, .int .u8 h1.kd, .int .i64 h1.ar, .int .i64 h1.rf]
          have B4 := bl_set T3.drew (show wr.heap.size ≤ wr.heap.size by omega) 0 [.int .i64 h1.op, .int .i64 h1.pl, .string h1.nm, .int .i64 h1.nu, .slice p10 es1.length q10, .slice p11 ns1.length q11, .slice p12 os1.length q12, .slice p13 on1.length q13, .slice p14 rs1.length q14, .slice p15 b1.length q15, .slice p16 e1.length q16, .int .u8 h1.kd, .int .i64 h1.ar, .int .i64 h1.rf]
          refine hK.out _ _ B4 (fun hHeld => ?_)
          clear hK K
          change W2.drew.there (wr.heap.size + 1) 0 14 at T2
          replace T4 : (W2.drew.setCells (wr.heap.size) 0 [.int .i64 h1.op, .int .i64 h1.pl, .string h1.nm, .int .i64 h1.nu, .slice p10 es1.length q10, .slice p11 ns1.length q11, .slice p12 os1.length q12, .slice p13 on1.length q13, .slice p14 rs1.length q14, .slice p15 b1.length q15, .slice p16 e1.length q16, .int .u8 h1.kd, .int .i64 h1.ar, .int .i64 h1.rf]).there (wr.heap.size + 1) 0 14 := World.there_setCells T2 (wr.heap.size) 0 [.int .i64 h1.op, .int .i64 h1.pl, .string h1.nm, .int .i64 h1.nu, .slice p10 es1.length q10, .slice p11 ns1.length q11, .slice p12 os1.length q12, .slice p13 on1.length q13, .slice p14 rs1.length q14, .slice p15 b1.length q15, .slice p16 e1.length q16, .int .u8 h1.kd, .int .i64 h1.ar, .int .i64 h1.rf]
          change wpAnyH _ _ _ _ _ _ _ _ (W2.drew.setCells (wr.heap.size) 0 [.int .i64 h1.op, .int .i64 h1.pl, .string h1.nm, .int .i64 h1.nu, .slice p10 es1.length q10, .slice p11 ns1.length q11, .slice p12 os1.length q12, .slice p13 on1.length q13, .slice p14 rs1.length q14, .slice p15 b1.length q15, .slice p16 e1.length q16, .int .u8 h1.kd, .int .i64 h1.ar, .int .i64 h1.rf])
          generalize W2.drew.setCells (wr.heap.size) 0 [.int .i64 h1.op, .int .i64 h1.pl, .string h1.nm, .int .i64 h1.nu, .slice p10 es1.length q10, .slice p11 ns1.length q11, .slice p12 os1.length q12, .slice p13 on1.length q13, .slice p14 rs1.length q14, .slice p15 b1.length q15, .slice p16 e1.length q16, .int .u8 h1.kd, .int .i64 h1.ar, .int .i64 h1.rf] = W3 at R1 T4 B4 hHeld ⊢
          rw [put_none (by rfl)]
          refine wpAnyH_ready (rs := [11]) (by kernel_rfl) (by simp) ?_
          refine AllReadyH.cons (o := _) rfl (fun K hK => ?_) AllReadyH.nil
          rw [if_pos (by rfl)]
          refine wp_store_mid 65 _ _ rfl (wr.heap.size + 1) 0 ([.int .i64 h1.op, .int .i64 h1.pl, .string h1.nm, .int .i64 h1.nu, .slice p20 es1.length q20, .slice p21 ns1.length q21, .slice p22 os1.length q22, .slice p23 on1.length q23, .slice p24 rs1.length q24, .slice p25 b1.length q25, .slice p26 e1.length q26, .int .u8 h1.kd, .int .i64 h1.ar, .int .i64 h1.rf] : List Value).toArray rfl rfl ?_ (by kernel_rfl) (all_oneCell_toArray (by intro v hv; simp at hv; rcases hv with rfl | rfl | rfl | rfl | rfl | rfl | rfl | rfl | rfl | rfl | rfl | rfl | rfl | rfl <;> rfl)) ?_
          · exact T4
          have R2 := World.rangeAt_setCells_same W3 (wr.heap.size + 1) 0 [.int .i64 h1.op, .int .i64 h1.pl, .string h1.nm, .int .i64 h1.nu, .slice p20 es1.length q20, .slice p21 ns1.length q21, .slice p22 os1.length q22, .slice p23 on1.length q23, .slice p24 rs1.length q24, .slice p25 b1.length q25, .slice p26 e1.length q26, .int .u8 h1.kd, .int .i64 h1.ar, .int .i64 h1.rf] T4
          have R3 := World.rangeAt_setCells_apart R1 (wr.heap.size + 1) 0 [.int .i64 h1.op, .int .i64 h1.pl, .string h1.nm, .int .i64 h1.nu, .slice p20 es1.length q20, .slice p21 ns1.length q21, .slice p22 os1.length q22, .slice p23 on1.length q23, .slice p24 rs1.length q24, .slice p25 b1.length q25, .slice p26 e1.length q26, .int .u8 h1.kd, .int .i64 h1.ar, .int .i64 h1.rf] (.inl (by omega))
          have B5 := bl_set B4 (show wr.heap.size ≤ wr.heap.size + 1 by omega) 0 [.int .i64 h1.op, .int .i64 h1.pl, .string h1.nm, .int .i64 h1.nu, .slice p20 es1.length q20, .slice p21 ns1.length q21, .slice p22 os1.length q22, .slice p23 on1.length q23, .slice p24 rs1.length q24, .slice p25 b1.length q25, .slice p26 e1.length q26, .int .u8 h1.kd, .int .i64 h1.ar, .int .i64 h1.rf]
          refine hK.out _ _ B5 (fun hHeld => ?_)
          clear hK K
          refine wpAnyH_done (by kernel_rfl) ?_ _
          rw [put_none (by rfl)]
          refine Met.intro ?_
          go_step
          go_meet
          case rel =>
            exact ⟨wr.heap.size, wr.heap.size + 1, rfl, rfl, bx_range R3, bx_range R2, by omega, by omega, B5⟩
        · go_simp
          refine hK.out _ _ (by go_grown) (fun hHeld => ?_)
          clear hK K
          refine wpAnyH_ready (rs := [8]) (by kernel_rfl) (by simp) ?_
          refine AllReadyH.cons (o := _) rfl (fun K hK => ?_) AllReadyH.nil
          go_simp
          refine hK.out _ _ (by go_grown) (fun hHeld => ?_)
          clear hK K
          have T1 : ((wr.alloc (.cells #[.int .i64 0, .int .i64 0, .string ⟨#[]⟩, .int .i64 0, .slice none 0 0, .slice none 0 0, .slice none 0 0, .slice none 0 0, .slice none 0 0, .slice none 0 0, .slice none 0 0, .int .u8 0, .int .i64 0, .int .i64 0] 65)).alloc (.cells #[.int .i64 0, .int .i64 0, .string ⟨#[]⟩, .int .i64 0, .slice none 0 0, .slice none 0 0, .slice none 0 0, .slice none 0 0, .slice none 0 0, .slice none 0 0, .slice none 0 0, .int .u8 0, .int .i64 0, .int .i64 0] 65)).there (wr.heap.size + 1) 0 14 := (there2 wr _ _ rfl).2
          have T2 : ((wr.alloc (.cells #[.int .i64 0, .int .i64 0, .string ⟨#[]⟩, .int .i64 0, .slice none 0 0, .slice none 0 0, .slice none 0 0, .slice none 0 0, .slice none 0 0, .slice none 0 0, .slice none 0 0, .int .u8 0, .int .i64 0, .int .i64 0] 65)).alloc (.cells #[.int .i64 0, .int .i64 0, .string ⟨#[]⟩, .int .i64 0, .slice none 0 0, .slice none 0 0, .slice none 0 0, .slice none 0 0, .slice none 0 0, .slice none 0 0, .slice none 0 0, .int .u8 0, .int .i64 0, .int .i64 0] 65)).there (wr.heap.size) 0 14 := (there2 wr _ _ rfl).1
          have T3 := bl_two wr (.cells #[.int .i64 0, .int .i64 0, .string ⟨#[]⟩, .int .i64 0, .slice none 0 0, .slice none 0 0, .slice none 0 0, .slice none 0 0, .slice none 0 0, .slice none 0 0, .slice none 0 0, .int .u8 0, .int .i64 0, .int .i64 0] 65) (.cells #[.int .i64 0, .int .i64 0, .string ⟨#[]⟩, .int .i64 0, .slice none 0 0, .slice none 0 0, .slice none 0 0, .slice none 0 0, .slice none 0 0, .slice none 0 0, .slice none 0 0, .int .u8 0, .int .i64 0, .int .i64 0] 65)
          generalize (wr.alloc (.cells #[.int .i64 0, .int .i64 0, .string ⟨#[]⟩, .int .i64 0, .slice none 0 0, .slice none 0 0, .slice none 0 0, .slice none 0 0, .slice none 0 0, .slice none 0 0, .slice none 0 0, .int .u8 0, .int .i64 0, .int .i64 0] 65)).alloc (.cells #[.int .i64 0, .int .i64 0, .string ⟨#[]⟩, .int .i64 0, .slice none 0 0, .slice none 0 0, .slice none 0 0, .slice none 0 0, .slice none 0 0, .slice none 0 0, .slice none 0 0, .int .u8 0, .int .i64 0, .int .i64 0] 65) = W2 at T1 T2 T3 hHeld ⊢
          refine wpAnyH_ready (rs := [10]) (by kernel_rfl) (by simp) ?_
          refine AllReadyH.cons (o := _) rfl (fun K hK => ?_) AllReadyH.nil
          rw [if_pos (by rfl)]
          refine wp_store_mid 65 _ _ rfl (wr.heap.size + 1) 0 ([.int .i64 h1.op, .int .i64 h1.pl, .string h1.nm, .int .i64 h1.nu, .slice p10 es1.length q10, .slice p11 ns1.length q11, .slice p12 os1.length q12, .slice p13 on1.length q13, .slice p14 rs1.length q14, .slice p15 b1.length q15, .slice p16 e1.length q16, .int .u8 h1.kd, .int .i64 h1.ar, .int .i64 h1.rf] : List Value).toArray rfl rfl ?_ (by kernel_rfl) (all_oneCell_toArray (by intro v hv; simp at hv; rcases hv with rfl | rfl | rfl | rfl | rfl | rfl | rfl | rfl | rfl | rfl | rfl | rfl | rfl | rfl <;> rfl)) ?_
          · exact T1
          have R1 := World.rangeAt_setCells_same W2.drew (wr.heap.size + 1) 0 [.int .i64 h1.op, .int .i64 h1.pl, .string h1.nm, .int .i64 h1.nu, .slice p10 es1.length q10, .slice p11 ns1.length q11, .slice p12 os1.length q12, .slice p13 on1.length q13, .slice p14 rs1.length q14, .slice p15 b1.length q15, .slice p16 e1.length q16, .int .u8 h1.kd, .int .i64 h1.ar, .int .i64 h1.rf] T1
          have T4 := World.there_setCells T2 (wr.heap.size + 1) 0 [.int .i64 h1.op, .int .i64 h1.pl, .string h1.nm, .int .i64 h1.nu, .slice p10 es1.length q10, .slice p11 ns1.length q11, .slice p12 os1.length q12, .slice p13 on1.length q13, .slice p14 rs1.length q14, .slice p15 b1.length q15, .slice p16 e1.length q16, .int .u8 h1.kd, .int .i64 h1.ar, .int .i64 h1.rf]
          have B4 := bl_set T3.drew (show wr.heap.size ≤ wr.heap.size + 1 by omega) 0 [.int .i64 h1.op, .int .i64 h1.pl, .string h1.nm, .int .i64 h1.nu, .slice p10 es1.length q10, .slice p11 ns1.length q11, .slice p12 os1.length q12, .slice p13 on1.length q13, .slice p14 rs1.length q14, .slice p15 b1.length q15, .slice p16 e1.length q16, .int .u8 h1.kd, .int .i64 h1.ar, .int .i64 h1.rf]
          refine hK.out _ _ B4 (fun hHeld => ?_)
          clear hK K
          change W2.drew.there (wr.heap.size) 0 14 at T2
          replace T4 : (W2.drew.setCells (wr.heap.size + 1) 0 [.int .i64 h1.op, .int .i64 h1.pl, .string h1.nm, .int .i64 h1.nu, .slice p10 es1.length q10, .slice p11 ns1.length q11, .slice p12 os1.length q12, .slice p13 on1.length q13, .slice p14 rs1.length q14, .slice p15 b1.length q15, .slice p16 e1.length q16, .int .u8 h1.kd, .int .i64 h1.ar, .int .i64 h1.rf]).there (wr.heap.size) 0 14 := World.there_setCells T2 (wr.heap.size + 1) 0 [.int .i64 h1.op, .int .i64 h1.pl, .string h1.nm, .int .i64 h1.nu, .slice p10 es1.length q10, .slice p11 ns1.length q11, .slice p12 os1.length q12, .slice p13 on1.length q13, .slice p14 rs1.length q14, .slice p15 b1.length q15, .slice p16 e1.length q16, .int .u8 h1.kd, .int .i64 h1.ar, .int .i64 h1.rf]
          change wpAnyH _ _ _ _ _ _ _ _ (W2.drew.setCells (wr.heap.size + 1) 0 [.int .i64 h1.op, .int .i64 h1.pl, .string h1.nm, .int .i64 h1.nu, .slice p10 es1.length q10, .slice p11 ns1.length q11, .slice p12 os1.length q12, .slice p13 on1.length q13, .slice p14 rs1.length q14, .slice p15 b1.length q15, .slice p16 e1.length q16, .int .u8 h1.kd, .int .i64 h1.ar, .int .i64 h1.rf])
          generalize W2.drew.setCells (wr.heap.size + 1) 0 [.int .i64 h1.op, .int .i64 h1.pl, .string h1.nm, .int .i64 h1.nu, .slice p10 es1.length q10, .slice p11 ns1.length q11, .slice p12 os1.length q12, .slice p13 on1.length q13, .slice p14 rs1.length q14, .slice p15 b1.length q15, .slice p16 e1.length q16, .int .u8 h1.kd, .int .i64 h1.ar, .int .i64 h1.rf] = W3 at R1 T4 B4 hHeld ⊢
          rw [put_none (by rfl)]
          refine wpAnyH_ready (rs := [11]) (by kernel_rfl) (by simp) ?_
          refine AllReadyH.cons (o := _) rfl (fun K hK => ?_) AllReadyH.nil
          rw [if_pos (by rfl)]
          refine wp_store_mid 65 _ _ rfl (wr.heap.size) 0 ([.int .i64 h1.op, .int .i64 h1.pl, .string h1.nm, .int .i64 h1.nu, .slice p20 es1.length q20, .slice p21 ns1.length q21, .slice p22 os1.length q22, .slice p23 on1.length q23, .slice p24 rs1.length q24, .slice p25 b1.length q25, .slice p26 e1.length q26, .int .u8 h1.kd, .int .i64 h1.ar, .int .i64 h1.rf] : List Value).toArray rfl rfl ?_ (by kernel_rfl) (all_oneCell_toArray (by intro v hv; simp at hv; rcases hv with rfl | rfl | rfl | rfl | rfl | rfl | rfl | rfl | rfl | rfl | rfl | rfl | rfl | rfl <;> rfl)) ?_
          · exact T4
          have R2 := World.rangeAt_setCells_same W3 (wr.heap.size) 0 [.int .i64 h1.op, .int .i64 h1.pl, .string h1.nm, .int .i64 h1.nu, .slice p20 es1.length q20, .slice p21 ns1.length q21, .slice p22 os1.length q22, .slice p23 on1.length q23, .slice p24 rs1.length q24, .slice p25 b1.length q25, .slice p26 e1.length q26, .int .u8 h1.kd, .int .i64 h1.ar, .int .i64 h1.rf] T4
          have R3 := World.rangeAt_setCells_apart R1 (wr.heap.size) 0 [.int .i64 h1.op, .int .i64 h1.pl, .string h1.nm, .int .i64 h1.nu, .slice p20 es1.length q20, .slice p21 ns1.length q21, .slice p22 os1.length q22, .slice p23 on1.length q23, .slice p24 rs1.length q24, .slice p25 b1.length q25, .slice p26 e1.length q26, .int .u8 h1.kd, .int .i64 h1.ar, .int .i64 h1.rf] (.inl (by omega))
          have B5 := bl_set B4 (show wr.heap.size ≤ wr.heap.size by omega) 0 [.int .i64 h1.op, .int .i64 h1.pl, .string h1.nm, .int .i64 h1.nu, .slice p20 es1.length q20, .slice p21 ns1.length q21, .slice p22 os1.length q22, .slice p23 on1.length q23, .slice p24 rs1.length q24, .slice p25 b1.length q25, .slice p26 e1.length q26, .int .u8 h1.kd, .int .i64 h1.ar, .int .i64 h1.rf]
          refine hK.out _ _ B5 (fun hHeld => ?_)
          clear hK K
          refine wpAnyH_done (by kernel_rfl) ?_ _
          rw [put_none (by rfl)]
          refine Met.intro ?_
          go_step
          go_meet
          case rel =>
            exact ⟨wr.heap.size + 1, wr.heap.size, rfl, rfl, bx_range R3, bx_range R2, by omega, by omega, B5⟩
      case rest =>
        obtain ⟨hx, hy, rfl, rfl, bx, bz, lx, ly, hb⟩ := hcut
        clear x0 x1 x2 x3 x4 x5 x6 x7 x8 x9 x10 x11 x12 x13 y0 y1 y2 y3 y4 y5 y6 y7 y8 y9 y10 y11 y12 y13 za zb
        have LD : PsL d := HL.out (by intro q; have := LT.out; rw [q] at this; exact absurd this (Nat.not_lt_zero _))
        have FR : Hid (∀ W, Below wr.heap.size wr W → FrS (fun b => b < w.heap.size) wr W) := fun W hb q hq => hb.cell (Nat.lt_of_lt_of_le hq HW.out.size)
        obtain ⟨u11, ⟨u12, g12⟩, u13, ⟨u14, g14⟩, ⟨u15, g15⟩, u16, u17⟩ := SvF.parts V1.out
        obtain ⟨u21, ⟨u22, g22⟩, u23, ⟨u24, g24⟩, ⟨u25, g25⟩, u26, u27⟩ := SvF.parts V2.out
        have Q0 : Hid (∀ W, Below wr.heap.size wr W → Calls Try.prog 35 #[.slice p10 es1.length q10, .slice p20 es1.length q20] W fun e w' => e = .returned (.bool true) ∧ Below W.heap.size W w') := fun W hb => plL_of d W _ _ es1 _ _ (u11.fr (FR.out W hb)).at (u21.fr (FR.out W hb)).at
        have Q1 : Hid (∀ W, Below wr.heap.size wr W → Calls Try.prog 23 #[.slice p11 ns1.length q11, .slice p21 ns1.length q21] W fun e w' => e = .returned (.bool true) ∧ Below W.heap.size W w') := fun W hb => by have := EqualT _ _ ns1 ns1 q11 q21 W (u12.fr (FR.out W hb)).1 (u22.fr (FR.out W hb)).1 (Nat.lt_trans g12 (by decide)); simpa using this
        have Q2 : Hid (∀ W, Below wr.heap.size wr W → Calls Try.prog 35 #[.slice p12 os1.length q12, .slice p22 os1.length q22] W fun e w' => e = .returned (.bool true) ∧ Below W.heap.size W w') := fun W hb => plL_of d W _ _ os1 _ _ (u13.fr (FR.out W hb)).at (u23.fr (FR.out W hb)).at
        have Q3 : Hid (∀ W, Below wr.heap.size wr W → Calls Try.prog 23 #[.slice p13 on1.length q13, .slice p23 on1.length q23] W fun e w' => e = .returned (.bool true) ∧ Below W.heap.size W w') := fun W hb => by have := EqualT _ _ on1 on1 q13 q23 W (u14.fr (FR.out W hb)).1 (u24.fr (FR.out W hb)).1 (Nat.lt_trans g14 (by decide)); simpa using this
        have Q4 : Hid (∀ W, Below wr.heap.size wr W → Calls Try.prog 36 #[.slice p14 rs1.length q14, .slice p24 rs1.length q24] W fun e w' => e = .returned (.bool true) ∧ Below W.heap.size W w') := fun W hb => by have := EqualG _ _ rs1 rs1 q14 q24 W (u15.fr (FR.out W hb)).1 (u25.fr (FR.out W hb)).1 (Nat.lt_trans g15 (by decide)); simpa using this
        have Q5 : Hid (∀ W, Below wr.heap.size wr W → Calls Try.prog 25 #[.slice p15 b1.length q15, .slice p25 b1.length q25] W fun e w' => e = .returned (.bool true) ∧ Below W.heap.size W w') := fun W hb => LD W _ _ b1 _ _ ((u16.fr (FR.out W hb)).sub fun b q => Nat.lt_of_lt_of_le q (Nat.le_trans HW.out.size hb.size)) ((u26.fr (FR.out W hb)).sub fun b q => Nat.lt_of_lt_of_le q (Nat.le_trans HW.out.size hb.size))
        have Q6 : Hid (∀ W, Below wr.heap.size wr W → Calls Try.prog 25 #[.slice p16 e1.length q16, .slice p26 e1.length q26] W fun e w' => e = .returned (.bool true) ∧ Below W.heap.size W w') := fun W hb => LD W _ _ e1 _ _ ((u17.fr (FR.out W hb)).sub fun b q => Nat.lt_of_lt_of_le q (Nat.le_trans HW.out.size hb.size)) ((u27.fr (FR.out W hb)).sub fun b q => Nat.lt_of_lt_of_le q (Nat.le_trans HW.out.size hb.size))
        have BC : Hid (Below wr.heap.size wr wc) := hb
        have X0 : Hid (BxS wc hx h1 (.slice p10 es1.length q10) (.slice p11 ns1.length q11) (.slice p12 os1.length q12) (.slice p13 on1.length q13) (.slice p14 rs1.length q14) (.slice p15 b1.length q15) (.slice p16 e1.length q16)) := bx
        have Y0 : Hid (BxS wc hy h1 (.slice p20 es1.length q20) (.slice p21 ns1.length q21) (.slice p22 os1.length q22) (.slice p23 on1.length q23) (.slice p24 rs1.length q24) (.slice p25 b1.length q25) (.slice p26 e1.length q26)) := bz
        have zz : hx < wc.heap.size ∧ hy < wc.heap.size := ⟨block_lt_of_cell bx.c0, block_lt_of_cell bz.c0⟩
        obtain ⟨a0, a1, a2, a3, a4, a5, a6, a7, a8, a9, a10, a11, a12, a13⟩ := bx
        obtain ⟨d0, d1, d2, d3, d4, d5, d6, d7, d8, d9, d10, d11, d12, d13⟩ := bz
        clear hb u11 u12 g12 u13 u14 g14 u15 g15 u16 u17 u21 u22 g22 u23 u24 g24 u25 g25 u26 u27 LD FR V1 V2
        have ns1' : (h1.nm.toList != h1.nm.toList) = false := nms_self _
        have ew : wrap64 ((k : Int) + 1) = (k : Int) + 1 := by have := HA.out.1; have := LT.out; unfold wrap64; omega
        go_wp2_with (first | (go_at_call 25; refine (Q6.out _ B5.out).mono ?_; rintro e w6 ⟨rfl, hb⟩; have B6 : Hid (Below wr.heap.size wr w6) := B5.out.trans (hb.mono B5.out.size); clear hb) | (go_at_call 25; refine (Q5.out _ B4.out).mono ?_; rintro e w5 ⟨rfl, hb⟩; have B5 : Hid (Below wr.heap.size wr w5) := B4.out.trans (hb.mono B4.out.size); have X6 : Hid (BxS w5 hx h1 (.slice p10 es1.length q10) (.slice p11 ns1.length q11) (.slice p12 os1.length q12) (.slice p13 on1.length q13) (.slice p14 rs1.length q14) (.slice p15 b1.length q15) (.slice p16 e1.length q16)) := X5.out.below hb zz5.1; have Y6 : Hid (BxS w5 hy h1 (.slice p20 es1.length q20) (.slice p21 ns1.length q21) (.slice p22 os1.length q22) (.slice p23 on1.length q23) (.slice p24 rs1.length q24) (.slice p25 b1.length q25) (.slice p26 e1.length q26)) := Y5.out.below hb zz5.2; have zz6 : hx < w5.heap.size ∧ hy < w5.heap.size := ⟨Nat.lt_of_lt_of_le zz5.1 hb.size, Nat.lt_of_lt_of_le zz5.2 hb.size⟩; have k5 := X6.out.c10; have j5 := Y6.out.c10; clear hb) | (go_at_call 36; refine (Q4.out _ B3.out).mono ?_; rintro e w4 ⟨rfl, hb⟩; have B4 : Hid (Below wr.heap.size wr w4) := B3.out.trans (hb.mono B3.out.size); have X5 : Hid (BxS w4 hx h1 (.slice p10 es1.length q10) (.slice p11 ns1.length q11) (.slice p12 os1.length q12) (.slice p13 on1.length q13) (.slice p14 rs1.length q14) (.slice p15 b1.length q15) (.slice p16 e1.length q16)) := X4.out.below hb zz4.1; have Y5 : Hid (BxS w4 hy h1 (.slice p20 es1.length q20) (.slice p21 ns1.length q21) (.slice p22 os1.length q22) (.slice p23 on1.length q23) (.slice p24 rs1.length q24) (.slice p25 b1.length q25) (.slice p26 e1.length q26)) := Y4.out.below hb zz4.2; have zz5 : hx < w4.heap.size ∧ hy < w4.heap.size := ⟨Nat.lt_of_lt_of_le zz4.1 hb.size, Nat.lt_of_lt_of_le zz4.2 hb.size⟩; have k4 := X5.out.c9; have j4 := Y5.out.c9; clear hb) | (go_at_call 23; refine (Q3.out _ B2.out).mono ?_; rintro e w3 ⟨rfl, hb⟩; have B3 : Hid (Below wr.heap.size wr w3) := B2.out.trans (hb.mono B2.out.size); have X4 : Hid (BxS w3 hx h1 (.slice p10 es1.length q10) (.slice p11 ns1.length q11) (.slice p12 os1.length q12) (.slice p13 on1.length q13) (.slice p14 rs1.length q14) (.slice p15 b1.length q15) (.slice p16 e1.length q16)) := X3.out.below hb zz3.1; have Y4 : Hid (BxS w3 hy h1 (.slice p20 es1.length q20) (.slice p21 ns1.length q21) (.slice p22 os1.length q22) (.slice p23 on1.length q23) (.slice p24 rs1.length q24) (.slice p25 b1.length q25) (.slice p26 e1.length q26)) := Y3.out.below hb zz3.2; have zz4 : hx < w3.heap.size ∧ hy < w3.heap.size := ⟨Nat.lt_of_lt_of_le zz3.1 hb.size, Nat.lt_of_lt_of_le zz3.2 hb.size⟩; have k3 := X4.out.c8; have j3 := Y4.out.c8; clear hb) | (go_at_call 23; refine (Q1.out _ B1.out).mono ?_; rintro e w2 ⟨rfl, hb⟩; have B2 : Hid (Below wr.heap.size wr w2) := B1.out.trans (hb.mono B1.out.size); have X3 : Hid (BxS w2 hx h1 (.slice p10 es1.length q10) (.slice p11 ns1.length q11) (.slice p12 os1.length q12) (.slice p13 on1.length q13) (.slice p14 rs1.length q14) (.slice p15 b1.length q15) (.slice p16 e1.length q16)) := X2.out.below hb zz2.1; have Y3 : Hid (BxS w2 hy h1 (.slice p20 es1.length q20) (.slice p21 ns1.length q21) (.slice p22 os1.length q22) (.slice p23 on1.length q23) (.slice p24 rs1.length q24) (.slice p25 b1.length q25) (.slice p26 e1.length q26)) := Y2.out.below hb zz2.2; have zz3 : hx < w2.heap.size ∧ hy < w2.heap.size := ⟨Nat.lt_of_lt_of_le zz2.1 hb.size, Nat.lt_of_lt_of_le zz2.2 hb.size⟩; have k2 := X3.out.c7; have j2 := Y3.out.c7; clear hb) | (go_at_call 35; refine (Q2.out _ B0.out).mono ?_; rintro e w1 ⟨rfl, hb⟩; have B1 : Hid (Below wr.heap.size wr w1) := B0.out.trans (hb.mono B0.out.size); have X2 : Hid (BxS w1 hx h1 (.slice p10 es1.length q10) (.slice p11 ns1.length q11) (.slice p12 os1.length q12) (.slice p13 on1.length q13) (.slice p14 rs1.length q14) (.slice p15 b1.length q15) (.slice p16 e1.length q16)) := X1.out.below hb zz1.1; have Y2 : Hid (BxS w1 hy h1 (.slice p20 es1.length q20) (.slice p21 ns1.length q21) (.slice p22 os1.length q22) (.slice p23 on1.length q23) (.slice p24 rs1.length q24) (.slice p25 b1.length q25) (.slice p26 e1.length q26)) := Y1.out.below hb zz1.2; have zz2 : hx < w1.heap.size ∧ hy < w1.heap.size := ⟨Nat.lt_of_lt_of_le zz1.1 hb.size, Nat.lt_of_lt_of_le zz1.2 hb.size⟩; have k1 := X2.out.c5; have j1 := Y2.out.c5; clear hb) | (go_at_call 35; refine (Q0.out _ BC.out).mono ?_; rintro e w0 ⟨rfl, hb⟩; have B0 : Hid (Below wr.heap.size wr w0) := BC.out.trans (hb.mono BC.out.size); have X1 : Hid (BxS w0 hx h1 (.slice p10 es1.length q10) (.slice p11 ns1.length q11) (.slice p12 os1.length q12) (.slice p13 on1.length q13) (.slice p14 rs1.length q14) (.slice p15 b1.length q15) (.slice p16 e1.length q16)) := X0.out.below hb zz.1; have Y1 : Hid (BxS w0 hy h1 (.slice p20 es1.length q20) (.slice p21 ns1.length q21) (.slice p22 os1.length q22) (.slice p23 on1.length q23) (.slice p24 rs1.length q24) (.slice p25 b1.length q25) (.slice p26 e1.length q26)) := Y0.out.below hb zz.2; have zz1 : hx < w0.heap.size ∧ hy < w0.heap.size := ⟨Nat.lt_of_lt_of_le zz.1 hb.size, Nat.lt_of_lt_of_le zz.2 hb.size⟩; have k0 := X1.out.c6; have j0 := Y1.out.c6; clear hb))
        rw [ew]
        exact ⟨⟨k + 1, Nat.succ_le_of_lt LT.out, rfl, HW.out.trans (B6.out.mono HW.out.size)⟩, msr LT.out⟩
    · have kl : ¬ (k : Int) < l.length := by omega
      clear hbw hlt
      go_wp2
      go_ret
      exact ⟨rfl, HW.out⟩
theorem psL_of : ∀ d, PsL d
  | 0 => by
    intro w x x' l c c' hk hk'
    obtain rfl := hk.none0
    exact plainDL 0 x x' [] c c' w hk.any hk'.any (fun h => absurd rfl h)
  | d + 1 => fun w x x' l c c' hk hk' => plainDL d x x' l c c' w hk hk' (fun _ => psL_of d)
end Go.Proofs.Ytcoeinfopfcekaa
