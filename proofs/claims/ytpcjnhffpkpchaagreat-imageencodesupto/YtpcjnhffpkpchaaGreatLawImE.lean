/- ImageEncodes is proved in its second form: for every image that is of bulk at most 1048576 the statement's function returns true, and it reads as it did. -/
import Derived.Test.YtpcjnhffpkpchaaGreatYd4
import Derived.Test.YtpcjnhffpkpchaaGreatYd6
import Derived.Test.YtpcjnhffpkpchaaGreatCrKY
import Derived.Test.YtpcjnhffpkpchaaGreatYa2
import Derived.Test.YtpcjnhffpkpchaaGreatImJY
import Derived.Test.YtpcjnhffpkpchaaGreatYb2
import Derived.Test.YtpcjnhffpkpchaaGreatYa4
import Derived.ShutString
import Derived.ChangeOld
import Derived.Below
import Derived.JoinedCond
namespace Go.Proofs.YtpcjnhffpkpchaaGreat
set_option linter.unusedVariables false
open Go.RowKit
theorem imb_le {m : ImR} (h : ImS m) : 4 ≤ (imbN m).length ∧ (imbN m).length ≤ 17592186044416 := by
  obtain ⟨o1, o2, o3, o4, o5, o6, o7⟩ := h
  have z1 := lsC_le o2
  have z2 := lsF_le o3
  have z3 := lsJ_le o4
  have z0 : m.nm.size ≤ 1048576 := o1
  unfold imbN
  rw [List.length_append, List.length_append, List.length_append, List.length_append, sbN_len, tbN_len]
  show 4 ≤ 4 + _ + _ + _ + _ ∧ 4 + _ + _ + _ + _ ≤ _
  omega
set_option maxRecDepth 20000 in
set_option maxHeartbeats 8000000 in
theorem EncodeR_0 (m : ImR) (x1 x2 x3 : Option Addr) (p1 p2 p3 : Nat) (w : World) {S : Nat → Prop} (hS : ∀ b, S b → b < w.heap.size) (hq : ImQ S w m x1 x2 x3) (ho : ImOk m) (hc : (chk m).2.2 ≠ 0) :
    Calls Tryz.prog 6 #[.agg #[.string m.nm, .slice x1 m.cs.length p1, .slice x2 m.fs.length p2, .slice x3 m.js.length p3]] w fun e w' => e = .returned (.tuple #[.slice none 0 0, .int .i64 (chk m).2.2]) ∧ Below w.heap.size w w' := by
  have HC : Hid ((chk m).2.2 ≠ 0) := hc
  clear hc
  have HS : Hid (∀ b, S b → b < w.heap.size) := hS
  have HQ : Hid (ImQ S w m x1 x2 x3) := hq
  have OK : Hid (ImOk m) := ho
  clear hS hq ho
  obtain ⟨AW, eW⟩ : ∃ AW, AW = w.alloc (.cells #[.string m.nm, .slice x1 m.cs.length p1, .slice x2 m.fs.length p2, .slice x3 m.js.length p3] 26 (0, 0)) := ⟨_, rfl⟩
  have AB : Hid (Below w.heap.size w AW) := by rw [eW]; exact (Below.refl _ _).alloc (Nat.le_refl _) _
  have AX : Hid (AW.heap[w.heap.size]? = some (.cells #[.string m.nm, .slice x1 m.cs.length p1, .slice x2 m.fs.length p2, .slice x3 m.js.length p3] 26 (0, 0))) := by rw [eW]; exact heap_alloc_last _ _
  have SV : Hid (∀ V, Below w.heap.size w V → ∀ b, S b → b < V.heap.size) := fun V h b hb => Nat.lt_of_lt_of_le (HS.out b hb) h.size
  have QV : Hid (∀ V, Below w.heap.size w V → ImQ S V m x1 x2 x3) := fun V h => HQ.out.fr (fun q hqq => h.cell (HS.out _ hqq))
  have i0 : AW.cell? ⟨w.heap.size, 0, none⟩ = some (.string m.nm) := by simp [World.cell?, AX.out]
  have i1 : AW.cell? ⟨w.heap.size, 1, none⟩ = some (.slice x1 m.cs.length p1) := by simp [World.cell?, AX.out]
  have i2 : AW.cell? ⟨w.heap.size, 2, none⟩ = some (.slice x2 m.fs.length p2) := by simp [World.cell?, AX.out]
  have i3 : AW.cell? ⟨w.heap.size, 3, none⟩ = some (.slice x3 m.js.length p3) := by simp [World.cell?, AX.out]
  have CK : Hid (Calls Tryz.prog 16 #[.agg #[.string m.nm, .slice x1 m.cs.length p1, .slice x2 m.fs.length p2, .slice x3 m.js.length p3]] AW fun e w' => e = .returned (.tuple #[.int .i64 (chk m).1, .int .i64 (chk m).2.1, .int .i64 (chk m).2.2]) ∧ Below AW.heap.size AW w') := CheckR_of m x1 x2 x3 p1 p2 p3 _ (SV.out _ AB.out) (QV.out _ AB.out) OK.out
  generalize (chk m).1 = c1 at *
  generalize (chk m).2.1 = c2 at *
  generalize (chk m).2.2 = c3 at *
  go_enter Tryz.func6, Tryz.ntmps6
  go_upto_region 1 with fail
  rw [← eW]
  clear eW
  go_wp2_with (go_at_call 16; refine (CK.out).mono ?_)
  first | (rintro e w1 ⟨he, hb1⟩; have he' := he) | (rintro e w1 he hb1)
  subst he
  have B1 : Hid (Below AW.heap.size AW w1) := hb1
  have X1 : Hid (w1.heap[w.heap.size]? = some (.cells #[.string m.nm, .slice x1 m.cs.length p1, .slice x2 m.fs.length p2, .slice x3 m.js.length p3] 26 (0, 0))) := (hb1.block _ (blk_in AX.out)).trans AX.out
  have GB1 : Hid (Below w.heap.size w w1) := AB.out.trans (hb1.mono AB.out.size)
  clear hb1 i0 i1 i2 i3
  go_upto_region 2 with fail
  have n1 : (c3 == 0) = false := by simp [HC.out]
  have n2 : (c3 != 0) = true := by simp [HC.out]
  clear CK HC
  go_wp2
  exact bodyPost_ret (v := .tuple #[.slice none 0 0, .int .i64 c3]) (by simp [results, Tryz.results6, go_sem]) rfl ⟨rfl, GB1.out⟩
set_option maxRecDepth 20000 in
set_option maxHeartbeats 8000000 in
theorem EncodeR_1 (m : ImR) (x1 x2 x3 : Option Addr) (p1 p2 p3 : Nat) (w : World) {S : Nat → Prop} (hS : ∀ b, S b → b < w.heap.size) (hq : ImQ S w m x1 x2 x3) (ho : ImOk m) (hc : (chk m).2.2 = 0) (hg : 4194304 < (imbN m).length + 4) :
    Calls Tryz.prog 6 #[.agg #[.string m.nm, .slice x1 m.cs.length p1, .slice x2 m.fs.length p2, .slice x3 m.js.length p3]] w fun e w' => e = .returned (.tuple #[.slice none 0 0, .int .i64 4]) ∧ Below w.heap.size w w' := by
  have SS : Hid (ImS m) := chk_small hc ho
  have HC : Hid ((chk m).2.2 = 0) := hc
  have HG : Hid (4194304 < (imbN m).length + 4) := hg
  clear hc hg
  have HS : Hid (∀ b, S b → b < w.heap.size) := hS
  have HQ : Hid (ImQ S w m x1 x2 x3) := hq
  have OK : Hid (ImOk m) := ho
  clear hS hq ho
  obtain ⟨AW, eW⟩ : ∃ AW, AW = w.alloc (.cells #[.string m.nm, .slice x1 m.cs.length p1, .slice x2 m.fs.length p2, .slice x3 m.js.length p3] 26 (0, 0)) := ⟨_, rfl⟩
  have AB : Hid (Below w.heap.size w AW) := by rw [eW]; exact (Below.refl _ _).alloc (Nat.le_refl _) _
  have AX : Hid (AW.heap[w.heap.size]? = some (.cells #[.string m.nm, .slice x1 m.cs.length p1, .slice x2 m.fs.length p2, .slice x3 m.js.length p3] 26 (0, 0))) := by rw [eW]; exact heap_alloc_last _ _
  have SV : Hid (∀ V, Below w.heap.size w V → ∀ b, S b → b < V.heap.size) := fun V h b hb => Nat.lt_of_lt_of_le (HS.out b hb) h.size
  have QV : Hid (∀ V, Below w.heap.size w V → ImQ S V m x1 x2 x3) := fun V h => HQ.out.fr (fun q hqq => h.cell (HS.out _ hqq))
  have i0 : AW.cell? ⟨w.heap.size, 0, none⟩ = some (.string m.nm) := by simp [World.cell?, AX.out]
  have i1 : AW.cell? ⟨w.heap.size, 1, none⟩ = some (.slice x1 m.cs.length p1) := by simp [World.cell?, AX.out]
  have i2 : AW.cell? ⟨w.heap.size, 2, none⟩ = some (.slice x2 m.fs.length p2) := by simp [World.cell?, AX.out]
  have i3 : AW.cell? ⟨w.heap.size, 3, none⟩ = some (.slice x3 m.js.length p3) := by simp [World.cell?, AX.out]
  have CK : Hid (Calls Tryz.prog 16 #[.agg #[.string m.nm, .slice x1 m.cs.length p1, .slice x2 m.fs.length p2, .slice x3 m.js.length p3]] AW fun e w' => e = .returned (.tuple #[.int .i64 (chk m).1, .int .i64 (chk m).2.1, .int .i64 (chk m).2.2]) ∧ Below AW.heap.size AW w') := CheckR_of m x1 x2 x3 p1 p2 p3 _ (SV.out _ AB.out) (QV.out _ AB.out) OK.out
  have BD : Hid (∀ V, Below w.heap.size w V → Calls Tryz.prog 18 #[.agg #[.string m.nm, .slice x1 m.cs.length p1, .slice x2 m.fs.length p2, .slice x3 m.js.length p3]] V fun e w' => ∃ v', e = .returned v' ∧ Sb w.heap.size (imbN m) v' w' ∧ Bq w.heap.size V w') := fun V hV => BodyR w.heap.size m x1 x2 x3 p1 p2 p3 V hV.size HS.out (QV.out V hV) SS.out
  have LE : Hid (4 ≤ (imbN m).length ∧ (imbN m).length ≤ 17592186044416) := imb_le SS.out
  have LTB : Hid (Lt (imbN m)) := Lt.imb m
  generalize imbN m = l at *
  generalize (chk m).1 = c1 at *
  generalize (chk m).2.1 = c2 at *
  generalize (chk m).2.2 = c3 at *
  go_enter Tryz.func6, Tryz.ntmps6
  go_upto_region 1 with fail
  rw [← eW]
  clear eW
  go_wp2_with (go_at_call 16; refine (CK.out).mono ?_)
  first | (rintro e w1 ⟨he, hb1⟩; have he' := he) | (rintro e w1 he hb1)
  subst he
  have X1 : Hid (w1.heap[w.heap.size]? = some (.cells #[.string m.nm, .slice x1 m.cs.length p1, .slice x2 m.fs.length p2, .slice x3 m.js.length p3] 26 (0, 0))) := (hb1.block _ (blk_in AX.out)).trans AX.out
  have GB1 : Hid (Below w.heap.size w w1) := AB.out.trans (hb1.mono AB.out.size)
  clear hb1 i0 i1 i2 i3
  go_upto_region 2 with fail
  have e3 : c3 = 0 := HC.out
  subst e3
  clear HC CK
  have i0 : w1.cell? ⟨w.heap.size, 0, none⟩ = some (.string m.nm) := by simp [World.cell?, X1.out]
  have i1 : w1.cell? ⟨w.heap.size, 1, none⟩ = some (.slice x1 m.cs.length p1) := by simp [World.cell?, X1.out]
  have i2 : w1.cell? ⟨w.heap.size, 2, none⟩ = some (.slice x2 m.fs.length p2) := by simp [World.cell?, X1.out]
  have i3 : w1.cell? ⟨w.heap.size, 3, none⟩ = some (.slice x3 m.js.length p3) := by simp [World.cell?, X1.out]
  go_upto_region 4 with fail
  go_wp2_with (go_at_call 18; refine (BD.out _ GB1.out).mono ?_)
  first | (rintro e w2 ⟨v2, he, s2, q2⟩; have he' := he) | (rintro e w2 v2 he s2 q2)
  subst he
  obtain ⟨y, n2, d2, rfl⟩ := s2.form
  have S2 : Hid (Sb w.heap.size l (.slice y n2 d2) w2) := s2
  have GB2 : Hid (Below w.heap.size w w2) := GB1.out.trans q2.b
  clear s2 q2 i0 i1 i2 i3
  go_wp2_with (go_at_call 17; refine (SummedR w.heap.size l _ w2 S2.out GB2.out.size LE.out.2 LTB.out (by have := LE.out.1; omega)).mono ?_)
  first | (rintro e w3 ⟨v3, he, s3, q3⟩; have he' := he) | (rintro e w3 v3 he s3 q3)
  subst he
  obtain ⟨y3, n3, d3, rfl⟩ := s3.form
  have S3 : Hid (Sb w.heap.size (l ++ cr4N (crcF l)) (.slice y3 n3 d3) w3) := s3
  have GB3 : Hid (Below w.heap.size w w3) := GB2.out.trans q3.b
  have NL : Hid (n3 = l.length + 4) := by have := s3.len; rw [List.length_append] at this; exact this
  clear s3 q3
  go_upto_region 5 with fail
  have b1 : (4194304 : Int) < (n3 : Int) := by have := HG.out; have := NL.out; omega
  clear HG
  go_wp2
  exact bodyPost_ret (v := .tuple #[.slice none 0 0, .int .i64 4]) (by simp [results, Tryz.results6, go_sem]) rfl ⟨rfl, GB3.out⟩
set_option maxRecDepth 20000 in
set_option maxHeartbeats 8000000 in
theorem EncodeR_2 (m : ImR) (x1 x2 x3 : Option Addr) (p1 p2 p3 : Nat) (w : World) {S : Nat → Prop} (hS : ∀ b, S b → b < w.heap.size) (hq : ImQ S w m x1 x2 x3) (ho : ImOk m) (hc : (chk m).2.2 = 0) (hg : ¬ 4194304 < (imbN m).length + 4) :
    Calls Tryz.prog 6 #[.agg #[.string m.nm, .slice x1 m.cs.length p1, .slice x2 m.fs.length p2, .slice x3 m.js.length p3]] w fun e w' => (∃ v, e = .returned (.tuple #[v, .int .i64 0]) ∧ w'.ownsRow w.heap.size 5 1 v (imbN m ++ cr4N (crcF (imbN m))).length (bvL (imbN m ++ cr4N (crcF (imbN m))))) ∧ Below w.heap.size w w' := by
  have SS : Hid (ImS m) := chk_small hc ho
  have HC : Hid ((chk m).2.2 = 0) := hc
  have HG : Hid (¬ 4194304 < (imbN m).length + 4) := hg
  clear hc hg
  have HS : Hid (∀ b, S b → b < w.heap.size) := hS
  have HQ : Hid (ImQ S w m x1 x2 x3) := hq
  have OK : Hid (ImOk m) := ho
  clear hS hq ho
  obtain ⟨AW, eW⟩ : ∃ AW, AW = w.alloc (.cells #[.string m.nm, .slice x1 m.cs.length p1, .slice x2 m.fs.length p2, .slice x3 m.js.length p3] 26 (0, 0)) := ⟨_, rfl⟩
  have AB : Hid (Below w.heap.size w AW) := by rw [eW]; exact (Below.refl _ _).alloc (Nat.le_refl _) _
  have AX : Hid (AW.heap[w.heap.size]? = some (.cells #[.string m.nm, .slice x1 m.cs.length p1, .slice x2 m.fs.length p2, .slice x3 m.js.length p3] 26 (0, 0))) := by rw [eW]; exact heap_alloc_last _ _
  have SV : Hid (∀ V, Below w.heap.size w V → ∀ b, S b → b < V.heap.size) := fun V h b hb => Nat.lt_of_lt_of_le (HS.out b hb) h.size
  have QV : Hid (∀ V, Below w.heap.size w V → ImQ S V m x1 x2 x3) := fun V h => HQ.out.fr (fun q hqq => h.cell (HS.out _ hqq))
  have i0 : AW.cell? ⟨w.heap.size, 0, none⟩ = some (.string m.nm) := by simp [World.cell?, AX.out]
  have i1 : AW.cell? ⟨w.heap.size, 1, none⟩ = some (.slice x1 m.cs.length p1) := by simp [World.cell?, AX.out]
  have i2 : AW.cell? ⟨w.heap.size, 2, none⟩ = some (.slice x2 m.fs.length p2) := by simp [World.cell?, AX.out]
  have i3 : AW.cell? ⟨w.heap.size, 3, none⟩ = some (.slice x3 m.js.length p3) := by simp [World.cell?, AX.out]
  have CK : Hid (Calls Tryz.prog 16 #[.agg #[.string m.nm, .slice x1 m.cs.length p1, .slice x2 m.fs.length p2, .slice x3 m.js.length p3]] AW fun e w' => e = .returned (.tuple #[.int .i64 (chk m).1, .int .i64 (chk m).2.1, .int .i64 (chk m).2.2]) ∧ Below AW.heap.size AW w') := CheckR_of m x1 x2 x3 p1 p2 p3 _ (SV.out _ AB.out) (QV.out _ AB.out) OK.out
  have BD : Hid (∀ V, Below w.heap.size w V → Calls Tryz.prog 18 #[.agg #[.string m.nm, .slice x1 m.cs.length p1, .slice x2 m.fs.length p2, .slice x3 m.js.length p3]] V fun e w' => ∃ v', e = .returned v' ∧ Sb w.heap.size (imbN m) v' w' ∧ Bq w.heap.size V w') := fun V hV => BodyR w.heap.size m x1 x2 x3 p1 p2 p3 V hV.size HS.out (QV.out V hV) SS.out
  have LE : Hid (4 ≤ (imbN m).length ∧ (imbN m).length ≤ 17592186044416) := imb_le SS.out
  have LTB : Hid (Lt (imbN m)) := Lt.imb m
  generalize imbN m = l at *
  generalize (chk m).1 = c1 at *
  generalize (chk m).2.1 = c2 at *
  generalize (chk m).2.2 = c3 at *
  go_enter Tryz.func6, Tryz.ntmps6
  go_upto_region 1 with fail
  rw [← eW]
  clear eW
  go_wp2_with (go_at_call 16; refine (CK.out).mono ?_)
  first | (rintro e w1 ⟨he, hb1⟩; have he' := he) | (rintro e w1 he hb1)
  subst he
  have X1 : Hid (w1.heap[w.heap.size]? = some (.cells #[.string m.nm, .slice x1 m.cs.length p1, .slice x2 m.fs.length p2, .slice x3 m.js.length p3] 26 (0, 0))) := (hb1.block _ (blk_in AX.out)).trans AX.out
  have GB1 : Hid (Below w.heap.size w w1) := AB.out.trans (hb1.mono AB.out.size)
  clear hb1 i0 i1 i2 i3
  go_upto_region 2 with fail
  have e3 : c3 = 0 := HC.out
  subst e3
  clear HC CK
  have i0 : w1.cell? ⟨w.heap.size, 0, none⟩ = some (.string m.nm) := by simp [World.cell?, X1.out]
  have i1 : w1.cell? ⟨w.heap.size, 1, none⟩ = some (.slice x1 m.cs.length p1) := by simp [World.cell?, X1.out]
  have i2 : w1.cell? ⟨w.heap.size, 2, none⟩ = some (.slice x2 m.fs.length p2) := by simp [World.cell?, X1.out]
  have i3 : w1.cell? ⟨w.heap.size, 3, none⟩ = some (.slice x3 m.js.length p3) := by simp [World.cell?, X1.out]
  go_upto_region 4 with fail
  go_wp2_with (go_at_call 18; refine (BD.out _ GB1.out).mono ?_)
  first | (rintro e w2 ⟨v2, he, s2, q2⟩; have he' := he) | (rintro e w2 v2 he s2 q2)
  subst he
  obtain ⟨y, n2, d2, rfl⟩ := s2.form
  have S2 : Hid (Sb w.heap.size l (.slice y n2 d2) w2) := s2
  have GB2 : Hid (Below w.heap.size w w2) := GB1.out.trans q2.b
  clear s2 q2 i0 i1 i2 i3
  go_wp2_with (go_at_call 17; refine (SummedR w.heap.size l _ w2 S2.out GB2.out.size LE.out.2 LTB.out (by have := LE.out.1; omega)).mono ?_)
  first | (rintro e w3 ⟨v3, he, s3, q3⟩; have he' := he) | (rintro e w3 v3 he s3 q3)
  subst he
  obtain ⟨y3, n3, d3, rfl⟩ := s3.form
  have S3 : Hid (Sb w.heap.size (l ++ cr4N (crcF l)) (.slice y3 n3 d3) w3) := s3
  have GB3 : Hid (Below w.heap.size w w3) := GB2.out.trans q3.b
  have NL : Hid (n3 = l.length + 4) := by have := s3.len; rw [List.length_append] at this; exact this
  clear s3 q3
  go_upto_region 5 with fail
  have b1 : ¬ (4194304 : Int) < (n3 : Int) := by have := HG.out; have := NL.out; omega
  clear HG
  go_wp2
  exact bodyPost_ret (v := .tuple #[.slice y3 n3 d3, .int .i64 0]) (by simp [results, Tryz.results6, go_sem]) rfl ⟨⟨_, rfl, by have q := S3.out; unfold Sb at q; first | exact q | (rw [List.length_append] at q; exact q)⟩, GB3.out⟩
theorem EncodeR (m : ImR) (x1 x2 x3 : Option Addr) (p1 p2 p3 : Nat) (w : World) {S : Nat → Prop} (hS : ∀ b, S b → b < w.heap.size) (hq : ImQ S w m x1 x2 x3) (ho : ImOk m) :
    Calls Tryz.prog 6 #[.agg #[.string m.nm, .slice x1 m.cs.length p1, .slice x2 m.fs.length p2, .slice x3 m.js.length p3]] w fun e w' => EnR w.heap.size m e w' ∧ Below w.heap.size w w' := by
  by_cases hc : (chk m).2.2 = 0
  · by_cases hg : 4194304 < (imbN m).length + 4
    · refine (EncodeR_1 m x1 x2 x3 p1 p2 p3 w hS hq ho hc hg).mono ?_
      rintro e w' ⟨he, hb⟩
      refine ⟨⟨.slice none 0 0, ?_, ?_⟩, hb⟩
      · rw [he, if_neg (by simp [hc]), if_pos hg]
      · rw [if_neg (by simp [hc]), if_pos hg]; exact World.ownsRow_nil _ _ _ _
    · refine (EncodeR_2 m x1 x2 x3 p1 p2 p3 w hS hq ho hc hg).mono ?_
      rintro e w' ⟨⟨v, he, hv⟩, hb⟩
      refine ⟨⟨v, ?_, ?_⟩, hb⟩
      · rw [he, if_neg (by simp [hc]), if_neg hg]
      · rw [if_neg (by simp [hc]), if_neg hg]; exact hv
  · refine (EncodeR_0 m x1 x2 x3 p1 p2 p3 w hS hq ho hc).mono ?_
    rintro e w' ⟨he, hb⟩
    refine ⟨⟨.slice none 0 0, ?_, ?_⟩, hb⟩
    · rw [he, if_pos hc]
    · rw [if_pos hc]; exact World.ownsRow_nil _ _ _ _
end Go.Proofs.YtpcjnhffpkpchaaGreat
namespace Go.Proofs.YtpcjnhffpkpchaaGreat
set_option linter.unusedVariables false
open Go.RowKit
theorem cellsI {V : World} {g : Nat} {a b c d : Value} {T : TypeId} {f : Nat × Nat} (h : V.heap[g]? = some (.cells #[a, b, c, d] T f)) : V.cell? ⟨g, 0, none⟩ = some a ∧ V.cell? ⟨g, 1, none⟩ = some b ∧ V.cell? ⟨g, 2, none⟩ = some c ∧ V.cell? ⟨g, 3, none⟩ = some d :=
  ⟨by simp [World.cell?, h], by simp [World.cell?, h], by simp [World.cell?, h], by simp [World.cell?, h]⟩
theorem enc_len (m : ImR) : (if (chk m).2.2 ≠ 0 then ([] : List Nat) else if 4194304 < (imbN m).length + 4 then [] else imbN m ++ cr4N (crcF (imbN m))).length ≤ 4194304 := by
  by_cases h : (chk m).2.2 ≠ 0
  · rw [if_pos h]; exact Nat.zero_le _
  · rw [if_neg h]
    by_cases k : 4194304 < (imbN m).length + 4
    · rw [if_pos k]; exact Nat.zero_le _
    · rw [if_neg k, List.length_append]
      show _ + 4 ≤ _
      omega
/-- Both answer alike. -/
theorem encs (m : ImR) (ho : ImOk m) : ∃ (E : Int) (L : List Nat), L.length ≤ 4194304 ∧
    (∀ (x1 x2 x3 : Option Addr) (p1 p2 p3 : Nat) (w : World), ImQ (fun b => b < w.heap.size) w m x1 x2 x3 → Calls Tryz.prog 5 #[.agg #[.string m.nm, .slice x1 m.cs.length p1, .slice x2 m.fs.length p2, .slice x3 m.js.length p3]] w fun e w' => (∃ v, e = .returned (.tuple #[v, .int .i64 E]) ∧ Sb w.heap.size L v w') ∧ Below w.heap.size w w') ∧
    (∀ (x1 x2 x3 : Option Addr) (p1 p2 p3 : Nat) (w : World), ImQ (fun b => b < w.heap.size) w m x1 x2 x3 → Calls Tryz.prog 6 #[.agg #[.string m.nm, .slice x1 m.cs.length p1, .slice x2 m.fs.length p2, .slice x3 m.js.length p3]] w fun e w' => (∃ v, e = .returned (.tuple #[v, .int .i64 E]) ∧ Sb w.heap.size L v w') ∧ Below w.heap.size w w') :=
  ⟨_, _, enc_len m, fun x1 x2 x3 p1 p2 p3 w h => EncodeX m x1 x2 x3 p1 p2 p3 w (fun b q => q) h ho, fun x1 x2 x3 p1 p2 p3 w h => EncodeR m x1 x2 x3 p1 p2 p3 w (fun b q => q) h ho⟩
set_option maxRecDepth 20000 in
set_option maxHeartbeats 8000000 in
theorem imencodes_walk (m : ImR) (x1 x2 x3 : Option Addr) (p1 p2 p3 : Nat) (w : World) (ha : ImQ (fun b => b < w.heap.size) w m x1 x2 x3) (ho : ImOk m) :
    Calls Tryz.prog 3 #[.agg #[.string m.nm, .slice x1 m.cs.length p1, .slice x2 m.fs.length p2, .slice x3 m.js.length p3]] w fun e w' => e = .returned (.bool true) ∧ Below w.heap.size w w' := by
  have HA : Hid (∀ V, Below w.heap.size w V → ImQ (fun b => b < V.heap.size) V m x1 x2 x3) := fun V h => ha.old h
  obtain ⟨E, L, hl, ex, er⟩ := encs m ho
  have LL : Hid (L.length ≤ 4194304) := hl
  have EX : Hid (∀ (x1 x2 x3 : Option Addr) (p1 p2 p3 : Nat) (w : World), ImQ (fun b => b < w.heap.size) w m x1 x2 x3 → Calls Tryz.prog 5 #[.agg #[.string m.nm, .slice x1 m.cs.length p1, .slice x2 m.fs.length p2, .slice x3 m.js.length p3]] w fun e w' => (∃ v, e = .returned (.tuple #[v, .int .i64 E]) ∧ Sb w.heap.size L v w') ∧ Below w.heap.size w w') := ex
  have ER : Hid (∀ (x1 x2 x3 : Option Addr) (p1 p2 p3 : Nat) (w : World), ImQ (fun b => b < w.heap.size) w m x1 x2 x3 → Calls Tryz.prog 6 #[.agg #[.string m.nm, .slice x1 m.cs.length p1, .slice x2 m.fs.length p2, .slice x3 m.js.length p3]] w fun e w' => (∃ v, e = .returned (.tuple #[v, .int .i64 E]) ∧ Sb w.heap.size L v w') ∧ Below w.heap.size w w') := er
  clear ha ho hl ex er
  obtain ⟨AW, eW⟩ : ∃ AW, AW = w.alloc (.cells #[.string m.nm, .slice x1 m.cs.length p1, .slice x2 m.fs.length p2, .slice x3 m.js.length p3] 26 (0, 0)) := ⟨_, rfl⟩
  have AB : Hid (Below w.heap.size w AW) := by rw [eW]; exact (Below.refl _ _).alloc (Nat.le_refl _) _
  have AX : Hid (AW.heap[w.heap.size]? = some (.cells #[.string m.nm, .slice x1 m.cs.length p1, .slice x2 m.fs.length p2, .slice x3 m.js.length p3] 26 (0, 0))) := by rw [eW]; exact heap_alloc_last _ _
  obtain ⟨i0, i1, i2, i3⟩ := cellsI AX.out
  go_enter Tryz.func3, Tryz.ntmps3
  go_upto_region 1 with fail
  rw [← eW]
  clear eW
  go_wp2_with (go_at_call 4; refine (Image_of m x1 x2 x3 p1 p2 p3 _ (fun b q => q) (HA.out _ AB.out)).mono ?_)
  first
    | (rintro e w1 ⟨⟨y1, c1, y2, c2, y3, c3, he, hq⟩, hb1⟩)
    | (rintro e w1 y1 c1 y2 c2 y3 c3 he hq hb1)
    | (rintro e w1 ⟨y1, c1, y2, c2, y3, c3, he, hq⟩ hb1)
  subst he
  have B1 : Hid (Below AW.heap.size AW w1) := hb1
  have Q1 : Hid (ImQ (fun b => b < w1.heap.size) w1 m y1 y2 y3) := hq.sub (fun b h => h.2)
  clear hb1 hq i0 i1 i2 i3
  obtain ⟨AR, eR⟩ : ∃ AR, AR = w1.alloc (.cells #[.string m.nm, .slice y1 m.cs.length c1, .slice y2 m.fs.length c2, .slice y3 m.js.length c3] 26 (0, 0)) := ⟨_, rfl⟩
  have RX : Hid (AR.heap[w1.heap.size]? = some (.cells #[.string m.nm, .slice y1 m.cs.length c1, .slice y2 m.fs.length c2, .slice y3 m.js.length c3] 26 (0, 0))) := by rw [eR]; exact heap_alloc_last _ _
  have RB1 : Hid (Below w1.heap.size w1 AR) := by rw [eR]; exact (Below.refl _ _).alloc (Nat.le_refl _) _
  have RB : Hid (∀ V, Below AR.heap.size AR V → Below w.heap.size w V) := fun V h => AB.out.trans ((B1.out.trans ((RB1.out.trans (h.mono RB1.out.size)).mono B1.out.size)).mono AB.out.size)
  have QC : Hid (∀ V, Below AR.heap.size AR V → ImQ (fun b => b < V.heap.size) V m y1 y2 y3) := fun V h => Q1.out.old (RB1.out.trans (h.mono RB1.out.size))
  have QO : Hid (∀ V, Below AR.heap.size AR V → ImQ (fun b => b < V.heap.size) V m x1 x2 x3) := fun V h => HA.out V (RB.out V h)
  have XC : Hid (∀ V, Below AR.heap.size AR V → V.heap[w1.heap.size]? = some (.cells #[.string m.nm, .slice y1 m.cs.length c1, .slice y2 m.fs.length c2, .slice y3 m.js.length c3] 26 (0, 0))) := fun V h => (h.block _ (blk_in RX.out)).trans RX.out
  have XO : Hid (∀ V, Below AR.heap.size AR V → V.heap[w.heap.size]? = some (.cells #[.string m.nm, .slice x1 m.cs.length p1, .slice x2 m.fs.length p2, .slice x3 m.js.length p3] 26 (0, 0))) := fun V h => by
    have a1 := (B1.out.block _ (blk_in AX.out)).trans AX.out
    have a2 := (RB1.out.block _ (blk_in a1)).trans a1
    exact (h.block _ (blk_in a2)).trans a2
  have R0 : Hid (Below AR.heap.size AR AR) := Below.refl _ _
  go_upto_region 2 with fail
  rw [← eR]
  clear eR AX AB B1 Q1 RX RB1 HA
  obtain ⟨j0, j1, j2, j3⟩ := cellsI (XC.out AR R0.out)
  go_wp2_with (go_at_call 5; refine (EX.out y1 y2 y3 c1 c2 c3 _ (QC.out _ R0.out)).mono ?_)
  first | (rintro e w2 ⟨⟨v2, he, s2⟩, hb2⟩; have he' := he) | (rintro e w2 v2 he s2 hb2; have he' := he)
  subst he
  obtain ⟨z2, n2, d2, rfl⟩ := s2.form
  have hn := s2.len
  subst hn
  have S2 : Hid (Sb AR.heap.size L (.slice z2 L.length d2) w2) := s2
  have B2 : Hid (Below AR.heap.size AR w2) := hb2
  clear s2 hb2 j0 j1 j2 j3
  obtain ⟨i0, i1, i2, i3⟩ := cellsI (XO.out w2 B2.out)
  go_upto_region 3 with fail
  go_wp2_with (go_at_call 6; refine (ER.out x1 x2 x3 p1 p2 p3 _ (QO.out _ B2.out)).mono ?_)
  first | (rintro e w3 ⟨⟨v3, he, s3⟩, hb3⟩; have he' := he) | (rintro e w3 v3 he s3 hb3; have he' := he)
  subst he
  obtain ⟨z3, n3, d3, rfl⟩ := s3.form
  have hn := s3.len
  subst hn
  have S3 : Hid (Sb w2.heap.size L (.slice z3 L.length d3) w3) := s3
  have T3 : Hid (Sb AR.heap.size L (.slice z2 L.length d2) w3) := Sb.below S2.out hb3
  have B3' : Hid (Below AR.heap.size AR w3) := B2.out.trans (hb3.mono B2.out.size)
  clear s3 hb3 i0 i1 i2 i3
  go_upto_region 4 with fail
  have ee : (E == E) = true := by simp
  go_wp2_with (go_at_call 7; refine (equalB z2 z3 L.length d2 d3 L _ rfl (by have := LL.out; omega) T3.out.cell S3.out.cell).mono ?_)
  first | (rintro e w3b ⟨he, hb3⟩) | (rintro e w3b he hb3)
  subst he
  have B3 : Hid (Below AR.heap.size AR w3b) := B3'.out.trans (hb3.mono B3'.out.size)
  clear hb3
  go_wp2_with (go_at_call 8; refine (awake_of _).mono ?_)
  first | (rintro e w4 ⟨he, hb4⟩) | (rintro e w4 he hb4)
  subst he
  have B4 : Hid (Below AR.heap.size AR w4) := B3.out.trans (hb4.mono B3.out.size)
  clear hb4
  obtain ⟨i0, i1, i2, i3⟩ := cellsI (XO.out w4 B4.out)
  obtain ⟨j0, j1, j2, j3⟩ := cellsI (XC.out w4 B4.out)
  go_wp2_with (go_at_call 9; refine (SameImage_of m m y1 y2 y3 x1 x2 x3 c1 c2 c3 p1 p2 p3 _ (fun b q => q) (QC.out _ B4.out) (QO.out _ B4.out)).mono ?_)
  intro e w5 he hb5
  subst he
  have B5 : Hid (Below AR.heap.size AR w5) := B4.out.trans (hb5.mono B4.out.size)
  have em : decide (m = m) = true := by simp
  clear hb5 i0 i1 i2 i3 j0 j1 j2 j3
  go_wp2
  go_ret
  exact ⟨by first | rfl | simp, RB.out _ B5.out⟩
end Go.Proofs.YtpcjnhffpkpchaaGreat
namespace Go.Proofs.YtpcjnhffpkpchaaGreat.LawImEncodes
set_option linter.unusedVariables false
open Go.ChangeShapes Go.WideShapes Go.ChangeAt Go.RowKit
theorem own : ownKnob Tryz.prog.godebug = none := by kernel_rfl
theorem laidOut : laidOutB Tryz.prog = true := by kernel_rfl
theorem bound {H : Type} {d0 : DataW H} (hk : Rows.uptoSmall H [d0] = true) : Rows.uptoBulk d0 ≤ 1048576 := by
  have h : Rows.uptoBulkAll [d0] ≤ 1048576 := of_decide_eq_true hk
  simp only [Rows.uptoBulkAll] at h
  omega
theorem underM : Tryz.prog.underlying 26 = some (.struct (Tryz.prog.fieldsOf 26)) := by kernel_rfl
theorem cellsM : Tryz.prog.cellsOf 26 = 4 := by kernel_rfl
set_option maxRecDepth 100000 in
theorem open_im {H : Type} {enc : TypeId × Value → H} {W : World} {base b0 : Nat} {spare : Nat → Bool} {held : Bool} {r : Reach} {v : Value} {d : DataW H} {p : List MemPlace}
    (hv : Value.okWide Tryz.prog W r b0 26 v) (h : DataW.Trod enc Tryz.prog W base spare held 26 v d p) (hb : Rows.uptoBulk d ≤ 1048576) :
    ∃ (m : ImR) (x1 x2 x3 : Option Addr) (c1 c2 c3 : Nat), v = .agg #[.string m.nm, .slice x1 m.cs.length c1, .slice x2 m.fs.length c2, .slice x3 m.js.length c3] ∧ ImQ (fun b => b < W.heap.size) W m x1 x2 x3 ∧ ImOk m := by
  obtain ⟨cs, rfl, hsz⟩ := okWide_struct underM hv
  obtain ⟨fuel, hf⟩ := h
  obtain ⟨m, x1, x2, x3, c1, c2, c3, e, q, ok⟩ := rd_Imi (cs := cs.toList) hf (by rw [Array.length_toList]; exact hsz.trans cellsM) hb
  refine ⟨m, x1, x2, x3, c1, c2, c3, ?_, q, ok⟩
  have : cs = (imC m (.slice x1 m.cs.length c1) (.slice x2 m.fs.length c2) (.slice x3 m.js.length c3)).toArray := by rw [← e]
  rw [this]
set_option maxRecDepth 100000 in
theorem contract (H : Type) (enc : TypeId × Value → H) (W : World) (base : Nat) (args : Array Value) (ds gs : List (DataW H)) (before : List MemPlace)
    (hval : ∀ (j : Nat) t v, Tryz.f3.params[j]? = some t → args[j]? = some v → Value.okWide Tryz.prog W .any base t v)
    (hW : DataW.Whole enc Tryz.prog Tryz.f3.params.toList Rows.imageEncodesSpec.vars false W args.toList ds gs before) (hk : Rows.uptoSmall H (ds ++ gs) = true) :
    Calls Tryz.prog 3 args W fun e W' => ∃ v, e = .returned v ∧ Rows.imageEncodesSpec.post enc Tryz.prog Tryz.f3 false true false false W args v W' := by
  have hW' := hW
  obtain ⟨p, q, hA0, hV, rfl, hfz, hnd⟩ := hW
  have hA : DataW.TrodAll enc Tryz.prog W 0 (fun _ => true) true Tryz.f3.params.toList args.toList ds p := hA0
  rw [Tryz.params3] at hA hval
  obtain ⟨v0, vs0, d0, ds0, p0, q0, hargs, rfl, rfl, h0, r0⟩ := trodAll_cons hA
  obtain ⟨rfl, rfl, rfl⟩ := trodAll_nil r0
  obtain rfl : args = #[v0] := by cases args; simp_all
  obtain ⟨rfl, rfl⟩ := trodVars_none hV
  have k0 := h0
  have lt0 : ∀ x ∈ p0, x.block < W.heap.size := by obtain ⟨m, hm⟩ := k0; exact DataW.trod_lt m _ _ _ hm
  simp only [List.append_nil] at hk
  have b0 := bound hk
  obtain ⟨m0, x1, x2, x3, c1, c2, c3, rfl, s0, k0ok⟩ := open_im (hval 0 26 v0 rfl rfl) h0 b0
  clear hA0
  refine (imencodes_walk m0 x1 x2 x3 c1 c2 c3 W s0 k0ok).mono fun e W' ⟨he, bel⟩ => ?_
  subst he
  exact ⟨_, rfl, _, _, _, [], _, [], hW', trodAll_mk1 (shut_bool Tryz.underlying4 _), (trodAll_cons_mk (Below.trod laidOut (by kernel_rfl) (of_decide_eq_true (by kernel_rfl)) k0 bel lt0) trodAll_mk0), rfl, bel.frame _, fun h => by cases h⟩
set_option maxRecDepth 100000 in
theorem lifted (os : Os) (started : os.Started) (H : Type) (enc : TypeId × Value → H) (F : Stop.Interp) :
    ReturnsInHanded {} Tryz.checked os 3 .any ((Rows.OpenSpec.upto Rows.imageEncodesSpec).pre6 enc Tryz.prog Tryz.f3 Rows.imageEncodesUptoRow.domain false) (((Rows.OpenSpec.upto Rows.imageEncodesSpec).at F).post enc Tryz.prog Tryz.f3 false true false false) := by
  refine returnsInHanded_of_cond (C := Tryz.checked) (s := Rows.OpenSpec.upto Rows.imageEncodesSpec) (k := Rows.uptoSmall) rfl own started (by kernel_rfl) Tryz.func3
    (OpenSpec.witness (enc := enc) (C := Tryz.checked) (s := Rows.OpenSpec.upto Rows.imageEncodesSpec) (k := Rows.uptoSmall) rfl false ⟨#[], #[.agg #[.string ⟨#[]⟩, .slice none 0 0, .slice none 0 0, .slice none 0 0]], []⟩ 8 (by kernel_rfl) (by kernel_rfl) (by kernel_rfl)
      (x := ([.agg [.lit (.string []), .nil, .nil, .nil]], [], [])) (by kernel_rfl) rfl (by kernel_rfl)) ?_
  intro W base args ds gs before hval hW _ hk _
  exact contract H enc W base args ds gs before hval hW hk
end Go.Proofs.YtpcjnhffpkpchaaGreat.LawImEncodes
namespace Go.Proofs.YtpcjnhffpkpchaaGreat
/-- THE STATEMENT'S SECOND FORM. -/
theorem imageEncodesUpto_proved : Rows.ImageEncodesUptoSaid :=
  OpenClaim.holds_of_cond 3 Tryz.f3 rfl rfl rfl rfl rfl rfl rfl ⟨rfl, rfl, rfl, rfl, rfl⟩ rfl rfl rfl rfl rfl (by kernel_rfl) Tryz.func3 (by kernel_rfl)
    (of_decide_eq_true (by kernel_rfl)) (by unfold Func.isWrapper; first | (rw [if_pos (by decide +kernel)]; kernel_rfl) | (rw [if_neg (by decide +kernel)]; exact ⟨rfl, rfl⟩))
    (fun os started H enc _ F => LawImEncodes.lifted os started H enc F)
end Go.Proofs.YtpcjnhffpkpchaaGreat
