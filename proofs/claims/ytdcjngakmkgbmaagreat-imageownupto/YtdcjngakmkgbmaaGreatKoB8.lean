/- ImageOwn's road, whatever Encode answers; no statement of the seat is proved here. -/
import Derived.Test.YtdcjngakmkgbmaaGreatKoB6
import Derived.Test.YtdcjngakmkgbmaaGreatEnOK
import Derived.Test.YtdcjngakmkgbmaaGreatKoB7
import Derived.Test.YtdcjngakmkgbmaaGreatCrKK
import Derived.Test.YtdcjngakmkgbmaaGreatKoA8
import Derived.Test.YtdcjngakmkgbmaaGreatKoA3
namespace Go.Proofs.YtdcjngakmkgbmaaGreat
set_option linter.unusedVariables false
open Go.RowKit
theorem imb_le {m : ImR} (h : ImS m) : 4 ≤ (imbN m).length ∧ (imbN m).length ≤ 17592186044416 := by
  obtain ⟨o1, o2, o3, o4, o5, o6, o7⟩ := h
  have z1 := lsC_le o2
  have z2 := lsF_le o3
  have z3 := lsJ_le o4
  have z0 : m.nm.size ≤ 4194304 := o1
  unfold imbN
  rw [List.length_append, List.length_append, List.length_append, List.length_append, sbN_len, tbN_len]
  show 4 ≤ 4 + _ + _ + _ + _ ∧ 4 + _ + _ + _ + _ ≤ _
  omega
set_option maxRecDepth 20000 in
set_option maxHeartbeats 8000000 in
theorem EncodeR_2 (m : ImR) (x1 x2 x3 : Option Addr) (p1 p2 p3 : Nat) (w : World) {S : Nat → Prop} (hS : ∀ b, S b → b < w.heap.size) (hq : ImQ S w m x1 x2 x3) (ho : ImOk m) (hc : (chk m).2.2 = 0) (hg : ¬ 4194304 < (imbN m).length + 4) :
    Calls Tryz.prog 8 #[.agg #[.string m.nm, .slice x1 m.cs.length p1, .slice x2 m.fs.length p2, .slice x3 m.js.length p3]] w fun e w' => (∃ v, e = .returned (.tuple #[v, .int .i64 0]) ∧ w'.ownsRow w.heap.size 5 1 v (imbN m ++ cr4N (crcF (imbN m))).length (bvL (imbN m ++ cr4N (crcF (imbN m))))) ∧ Below w.heap.size w w' := by
  have SS : Hid (ImS m) := chk_small hc ho
  have HC : Hid ((chk m).2.2 = 0) := hc
  have HG : Hid (¬ 4194304 < (imbN m).length + 4) := hg
  clear hc hg
  have HS : Hid (∀ b, S b → b < w.heap.size) := hS
  have HQ : Hid (ImQ S w m x1 x2 x3) := hq
  have OK : Hid (ImOk m) := ho
  clear hS hq ho
  obtain ⟨AW, eW⟩ : ∃ AW, AW = w.alloc (.cells #[.string m.nm, .slice x1 m.cs.length p1, .slice x2 m.fs.length p2, .slice x3 m.js.length p3] 26 (0, 0)) := ⟨_, rfl⟩
  have AB : Hid (Below w.heap.size w AW) := by rw [eW]; exact (Below.refl _ _).alloc (Nat.le_refl _) _
  have AX : Hid (AW.heap[w.heap.size]? = some (.cells #[.string m.nm, .slice x1 m.cs.length p1, .slice x2 m.fs.length p2, .slice x3 m.js.length p3] 26 (0, 0))) := by rw [eW]; exact heap_alloc_last _ _
  have SV : Hid (∀ V, Below w.heap.size w V → ∀ b, S b → b < V.heap.size) := fun V h b hb => Nat.lt_of_lt_of_le (HS.out b hb) h.size
  have QV : Hid (∀ V, Below w.heap.size w V → ImQ S V m x1 x2 x3) := fun V h => HQ.out.fr (fun q hqq => h.cell (HS.out _ hqq))
  have i0 : AW.cell? ⟨w.heap.size, 0, none⟩ = some (.string m.nm) := by simp [World.cell?, AX.out]
  have i1 : AW.cell? ⟨w.heap.size, 1, none⟩ = some (.slice x1 m.cs.length p1) := by simp [World.cell?, AX.out]
  have i2 : AW.cell? ⟨w.heap.size, 2, none⟩ = some (.slice x2 m.fs.length p2) := by simp [World.cell?, AX.out]
  have i3 : AW.cell? ⟨w.heap.size, 3, none⟩ = some (.slice x3 m.js.length p3) := by simp [World.cell?, AX.out]
  have CK : Hid (Calls Tryz.prog 18 #[.agg #[.string m.nm, .slice x1 m.cs.length p1, .slice x2 m.fs.length p2, .slice x3 m.js.length p3]] AW fun e w' => e = .returned (.tuple #[.int .i64 (chk m).1, .int .i64 (chk m).2.1, .int .i64 (chk m).2.2]) ∧ Below AW.heap.size AW w') := CheckR_of m x1 x2 x3 p1 p2 p3 _ (SV.out _ AB.out) (QV.out _ AB.out) OK.out
  have BD : Hid (∀ V, Below w.heap.size w V → Calls Tryz.prog 20 #[.agg #[.string m.nm, .slice x1 m.cs.length p1, .slice x2 m.fs.length p2, .slice x3 m.js.length p3]] V fun e w' => ∃ v', e = .returned v' ∧ Sb w.heap.size (imbN m) v' w' ∧ Bq w.heap.size V w') := fun V hV => BodyR w.heap.size m x1 x2 x3 p1 p2 p3 V hV.size HS.out (QV.out V hV) SS.out
  have LE : Hid (4 ≤ (imbN m).length ∧ (imbN m).length ≤ 17592186044416) := imb_le SS.out
  have LTB : Hid (Lt (imbN m)) := Lt.imb m
  generalize imbN m = l at *
  generalize (chk m).1 = c1 at *
  generalize (chk m).2.1 = c2 at *
  generalize (chk m).2.2 = c3 at *
  go_enter Tryz.func8, Tryz.ntmps8
  go_upto_region 1 with fail
  rw [← eW]
  clear eW
  go_wp2_with (go_at_call 18; refine (CK.out).mono ?_)
  first | (rintro e w1 ⟨he, hb1⟩; have he' := he) | (rintro e w1 he hb1)
  subst he
  have X1 : Hid (w1.heap[w.heap.size]? = some (.cells #[.string m.nm, .slice x1 m.cs.length p1, .slice x2 m.fs.length p2, .slice x3 m.js.length p3] 26 (0, 0))) := (hb1.block _ (blk_in AX.out)).trans AX.out
  have GB1 : Hid (Below w.heap.size w w1) := AB.out.trans (hb1.mono AB.out.size)
  clear hb1 i0 i1 i2 i3
  go_upto_region 2 with fail
  have e3 : c3 = 0 := HC.out
  subst e3
  clear HC CK
  have i0 : w1.cell? ⟨w.heap.size, 0, none⟩ = some (.string m.nm) := by simp [World.cell?, X1.out]
  have i1 : w1.cell? ⟨w.heap.size, 1, none⟩ = some (.slice x1 m.cs.length p1) := by simp [World.cell?, X1.out]
  have i2 : w1.cell? ⟨w.heap.size, 2, none⟩ = some (.slice x2 m.fs.length p2) := by simp [World.cell?, X1.out]
  have i3 : w1.cell? ⟨w.heap.size, 3, none⟩ = some (.slice x3 m.js.length p3) := by simp [World.cell?, X1.out]
  go_upto_region 4 with fail
  go_wp2_with (go_at_call 20; refine (BD.out _ GB1.out).mono ?_)
  first | (rintro e w2 ⟨v2, he, s2, q2⟩; have he' := he) | (rintro e w2 v2 he s2 q2)
  subst he
  obtain ⟨y, n2, d2, rfl⟩ := s2.form
  have S2 : Hid (Sb w.heap.size l (.slice y n2 d2) w2) := s2
  have GB2 : Hid (Below w.heap.size w w2) := GB1.out.trans q2.b
  clear s2 q2 i0 i1 i2 i3
  go_wp2_with (go_at_call 19; refine (SummedR w.heap.size l _ w2 S2.out GB2.out.size LE.out.2 LTB.out (by have := LE.out.1; omega)).mono ?_)
  first | (rintro e w3 ⟨v3, he, s3, q3⟩; have he' := he) | (rintro e w3 v3 he s3 q3)
  subst he
  obtain ⟨y3, n3, d3, rfl⟩ := s3.form
  have S3 : Hid (Sb w.heap.size (l ++ cr4N (crcF l)) (.slice y3 n3 d3) w3) := s3
  have GB3 : Hid (Below w.heap.size w w3) := GB2.out.trans q3.b
  have NL : Hid (n3 = l.length + 4) := by have := s3.len; rw [List.length_append] at this; exact this
  clear s3 q3
  go_upto_region 5 with fail
  have b1 : ¬ (4194304 : Int) < (n3 : Int) := by have := HG.out; have := NL.out; omega
  clear HG
  go_wp2
  exact bodyPost_ret (v := .tuple #[.slice y3 n3 d3, .int .i64 0]) (by simp [results, Tryz.results8, go_sem]) rfl ⟨⟨_, rfl, by have q := S3.out; unfold Sb at q; first | exact q | (rw [List.length_append] at q; exact q)⟩, GB3.out⟩
end Go.Proofs.YtdcjngakmkgbmaaGreat
namespace Go.Proofs.YtdcjngakmkgbmaaGreat
end Go.Proofs.YtdcjngakmkgbmaaGreat
namespace Go.Proofs.YtdcjngakmkgbmaaGreat.Ty
set_option linter.unusedVariables false
set_option linter.unusedSimpArgs false
open Go.RowKit
theorem sb_byso {B : Nat} {l : List Nat} {x : Option Addr} {n c : Nat} {V : World} (h : Sb B l (.slice x n c) V) : BySo B x l V := fun k b hb => by
  obtain ⟨kb, o, e, h1, h2⟩ := h.bysl k b hb
  exact ⟨kb, o, e, (h.lt kb (by rw [e]; rfl)).1, h1, h2⟩
theorem byso_at {B : Nat} {x : Option Addr} {l : List Nat} {w : World} (h : BySo B x l w) (j b : Nat) (hj : l[j]? = some b) : ∃ a, x = some a ∧ a.block < w.heap.size ∧ w.cell? (a.add j) = some (.int .u8 (b : Int)) := by
  obtain ⟨kb, o, e, h0, h1, h2⟩ := h j b hj
  exact ⟨⟨kb, o, none⟩, e, h1, by rw [Addr.add_mid]; exact h2⟩
set_option maxRecDepth 20000 in
set_option maxHeartbeats 4000000 in
theorem own_bad (m : ImR) (x1 x2 x3 : Option Addr) (p1 p2 p3 : Nat) (w : World) (ha : ImQ (fun b => b < w.heap.size) w m x1 x2 x3) (er : Int) (h0 : er ≠ 0)
    (hEN : ∀ V, ImQ (fun b => b < V.heap.size) V m x1 x2 x3 → Calls Tryz.prog 4 #[.agg #[.string m.nm, .slice x1 m.cs.length p1, .slice x2 m.fs.length p2, .slice x3 m.js.length p3]] V fun e w' => e = .returned (.tuple #[.slice none 0 0, .int .i64 er]) ∧ Below V.heap.size V w') :
    Calls Tryz.prog 3 #[.agg #[.string m.nm, .slice x1 m.cs.length p1, .slice x2 m.fs.length p2, .slice x3 m.js.length p3]] w fun e w' => e = .returned (.bool true) ∧ Below w.heap.size w w' := by
  obtain ⟨AW, eW⟩ : ∃ AW, AW = w.alloc (.cells #[.string m.nm, .slice x1 m.cs.length p1, .slice x2 m.fs.length p2, .slice x3 m.js.length p3] 26 (0, 0)) := ⟨_, rfl⟩
  have AB : Hid (Below w.heap.size w AW) := by rw [eW]; exact al_b _ _
  have AX : Hid (AW.heap[w.heap.size]? = some (.cells #[.string m.nm, .slice x1 m.cs.length p1, .slice x2 m.fs.length p2, .slice x3 m.js.length p3] 26 (0, 0))) := by rw [eW]; exact heap_alloc_last _ _
  have QA : Hid (ImQ (fun b => b < AW.heap.size) AW m x1 x2 x3) := ha.old AB.out
  have EN : Hid _ := hEN
  have H0 : Hid (er ≠ 0) := h0
  clear ha hEN
  obtain ⟨i0, i1, i2, i3⟩ := cells4 AX.out
  go_enter Tryz.func3, Tryz.ntmps3
  go_upto_region 1 with fail
  rw [← eW]
  clear eW AX
  go_wp2_with fail
  refine (EN.out AW QA.out).mono ?_
  rintro e w1 ⟨rfl, hb1⟩
  have B1 : Hid (Below w.heap.size w w1) := AB.out.trans (hb1.mono AB.out.size)
  clear hb1 i0 i1 i2 i3 EN
  go_wp2_with fail
  refine (awake_of _).mono ?_
  rintro e w8 ⟨rfl, hb8⟩
  have B8 : Hid (Below w.heap.size w w8) := B1.out.trans (hb8.mono B1.out.size)
  clear hb8
  go_wp2
  go_ret
  exact ⟨by first | rfl | simp, B8.out⟩
theorem imown_walk (m : ImR) (x1 x2 x3 : Option Addr) (p1 p2 p3 : Nat) (w : World) (ha : ImQ (fun b => b < w.heap.size) w m x1 x2 x3) (ho : ImOk m) :
    Calls Tryz.prog 3 #[.agg #[.string m.nm, .slice x1 m.cs.length p1, .slice x2 m.fs.length p2, .slice x3 m.js.length p3]] w fun e w' => e = .returned (.bool true) ∧ Below w.heap.size w w' := by
  by_cases hc : (chk m).2.2 = 0
  · by_cases hg : 4194304 < (imbN m).length + 4
    · exact own_bad m x1 x2 x3 p1 p2 p3 w ha 4 (by decide) (fun V hV => EncodeX_1 m x1 x2 x3 p1 p2 p3 V (fun b q => q) hV ho hc hg)
    · obtain ⟨f1, f2, f3, f4⟩ := file_ok ho hc (by omega)
      refine own_walk m x1 x2 x3 p1 p2 p3 (fileN m) w ha (by rw [fileN_len]; omega) f3 (fun V hV => ?_) (fun V hV => ?_) (fun y d V hy hd => ?_) (fun V y1 y2 y3 c1 c2 c3 hx hy => ?_) (fun y c z d V hy hz => ?_) awake_of
      · refine (EncodeY m x1 x2 x3 p1 p2 p3 V (fun b q => q) hV ho hc (by omega)).mono ?_
        rintro e w' ⟨⟨y, d, he, hs⟩, hb⟩
        exact ⟨⟨y, d, he, hs, sb_byso hs, hs.cap⟩, hb⟩
      · refine (EncodeR_2 m x1 x2 x3 p1 p2 p3 V (fun b q => q) hV ho hc hg).mono ?_
        rintro e w' ⟨⟨v, he, hv⟩, hb⟩
        have hs : Sb V.heap.size (fileN m) v w' := hv
        obtain ⟨y, n, d, rfl⟩ := hs.form
        have en := hs.len
        subst en
        exact ⟨⟨y, d, _, he, (sb_byso hs).low⟩, hb⟩
      · have q := DecodeT y d (fileN m) V f3 (fun k b hb => by
          obtain ⟨kb, o, e, h0, h1, h2⟩ := hy k b hb
          exact ⟨kb, o, e, h1, h2⟩) hd
        rw [f1, f2] at q
        refine q.mono ?_
        rintro e w' ⟨⟨z, he, hz⟩, hb⟩
        obtain ⟨y1, c1, y2, c2, y3, c3, rfl, hq⟩ := hz.2 rfl
        exact ⟨⟨y1, c1, y2, c2, y3, c3, he, hq⟩, hb⟩
      · refine (SameImage_of m m y1 y2 y3 x1 x2 x3 c1 c2 c3 p1 p2 p3 V (fun b q => q) hy hx).mono ?_
        first | (rintro e w' ⟨he, hb⟩) | (rintro e w' he hb)
        refine ⟨?_, hb⟩
        rw [he, show decide (m = m) = true from decide_eq_true rfl]
      · exact equalB y z _ c d (fileN m) V rfl (by rw [fileN_len]; omega) (byso_at hy) (byso_at hz)
  · exact own_bad m x1 x2 x3 p1 p2 p3 w ha _ hc (fun V hV => EncodeX_0 m x1 x2 x3 p1 p2 p3 V (fun b q => q) hV ho hc)
end Go.Proofs.YtdcjngakmkgbmaaGreat.Ty
