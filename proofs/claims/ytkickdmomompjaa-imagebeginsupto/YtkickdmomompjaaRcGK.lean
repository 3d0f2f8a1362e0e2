/- The walk of ImageBegins; no statement of the seat is proved here. -/
import Derived.Test.YtkickdmomompjaaRcEK
namespace Go.Proofs.Ytkickdmomompjaa
set_option linter.unusedVariables false
set_option linter.unusedSimpArgs false
open Go.RowKit
theorem Sb.own {B : Nat} {l : List Nat} {v : Value} {V : World} (h : Sb B l v V) : ∀ j, v.ownBlock = some j → B ≤ j := fun j hj => by
  rcases h.2 with ⟨hv, _⟩ | ⟨g, cap, cur, hv, hb, _⟩
  · rw [hv] at hj; cases hj
  · rw [hv] at hj; cases hj; exact hb
theorem BySl.take {x : Option Addr} {l : List Nat} {w : World} (h : BySl x l w) (n : Nat) : BySl x (l.take n) w := fun k b hk => by
  rw [List.getElem?_take] at hk
  split at hk
  · exact h k b hk
  · cases hk
set_option maxRecDepth 20000 in
set_option maxHeartbeats 8000000 in
theorem imbegins_walk (m : ImR) (x1 x2 x3 : Option Addr) (p1 p2 p3 : Nat) (at_ : Int) (z : Option Addr) (zc : Nat) (t : List Nat) (w : World) (ha : ImQ (fun b => b < w.heap.size) w m x1 x2 x3) (ho : ImOk m) (h0 : 0 ≤ at_) (h1 : at_ < 18446744073709551616)
    (hz : BySl z t w) (hz0 : z = none → t = [] ∧ zc = 0) (hz8 : ∀ b ∈ t, b < 256) (hzc : t.length ≤ zc) (hzl : t.length ≤ 1048576) :
    Calls Try.prog 5 #[.agg #[.string m.nm, .slice x1 m.cs.length p1, .slice x2 m.fs.length p2, .slice x3 m.js.length p3], .int .u64 at_, .slice z t.length zc] w fun e w' => e = .returned (.bool true) ∧ Below w.heap.size w w' := by
  have OK : Hid (ImOk m) := ho
  have AT : Hid (0 ≤ at_ ∧ at_ < 18446744073709551616) := ⟨h0, h1⟩
  have HZ : Hid (BySl z t w) := hz
  have HZ0 : Hid (z = none → t = [] ∧ zc = 0) := hz0
  have HZ8 : Hid (∀ b ∈ t, b < 256) := hz8
  have HZC : Hid (t.length ≤ zc ∧ t.length ≤ 1048576) := ⟨hzc, hzl⟩
  obtain ⟨AW, eW⟩ : ∃ AW, AW = w.alloc (.cells #[.string m.nm, .slice x1 m.cs.length p1, .slice x2 m.fs.length p2, .slice x3 m.js.length p3] 27 (0, 0)) := ⟨_, rfl⟩
  have AB : Hid (Below w.heap.size w AW) := by rw [eW]; exact alB _ _
  have AX : Hid (AW.heap[w.heap.size]? = some (.cells #[.string m.nm, .slice x1 m.cs.length p1, .slice x2 m.fs.length p2, .slice x3 m.js.length p3] 27 (0, 0))) := by rw [eW]; exact heap_alloc_last _ _
  have EN : Hid (Calls Try.prog 8 #[.agg #[.string m.nm, .slice x1 m.cs.length p1, .slice x2 m.fs.length p2, .slice x3 m.js.length p3]] AW fun e w' => ((∃ er : Int, er ≠ 0 ∧ e = .returned (.tuple #[.slice none 0 0, .int .i64 er])) ∨ (∃ y d, ((chk m).2.2 = 0 ∧ (imbN m).length + 4 ≤ 4194304) ∧ e = .returned (.tuple #[.slice y (fileN m).length d, .int .i64 0]) ∧ Sb AW.heap.size (fileN m) (.slice y (fileN m).length d) w')) ∧ Below AW.heap.size AW w') := EncodeW m x1 x2 x3 p1 p2 p3 AW (fun b q => q) (ha.old AB.out) ho
  clear ha ho h0 h1 hz hz0 hz8 hzc hzl
  obtain ⟨i0, i1, i2, i3⟩ := cellsD AX.out
  go_enter Try.func5, Try.ntmps5
  go_upto_region 1 with fail
  rw [← eW]
  clear eW
  go_wp2_with fail
  refine (EN.out).mono ?_
  rintro e w1 ⟨he, hb1⟩
  have B1 : Hid (Below w.heap.size w w1) := AB.out.trans (hb1.mono AB.out.size)
  clear hb1 i0 i1 i2 i3 EN AX
  rcases he with ⟨er, hn, rfl⟩ | ⟨y, d, hc, rfl, hs⟩
  · go_wp2_with fail
    refine (awake_of _).mono ?_
    rintro e w8 ⟨rfl, hb8⟩
    have B8 : Hid (Below w.heap.size w w8) := B1.out.trans (hb8.mono B1.out.size)
    clear hb8
    go_wp2
    go_ret
    exact ⟨by first | rfl | simp, B8.out⟩
  · obtain ⟨f1, f2, f3, f4⟩ := file_ok OK.out hc.1 hc.2
    have FD : Hid (decE (fileN m) = (0, 0)) := f2
    have F8 : Hid (∀ b ∈ fileN m, b < 256) := f3
    have LN : Hid ((fileN m).length ≤ 4194304) := by show _ ≤ _; rw [fileN_len]; exact hc.2
    have S1 : Hid (Sb AW.heap.size (fileN m) (.slice y (fileN m).length d) w1) := hs
    clear hc hs f1 f2 f3
    generalize (fileN m) = l at *
    obtain ⟨g, cur, ey, hg, hgc⟩ := S1.out.row (by omega)
    subst ey
    have HB : Hid (BySl (some ⟨g, 0, none⟩) l w1) := S1.out.bysl
    have DC : Hid (l.length ≤ d) := S1.out.cap
    have nz : ¬ (l.length : Int) = 0 := by omega
    have nz' : ¬ l.length = 0 := by omega
    have L8 : Hid (8 ≤ l.length) := f4
    clear S1 hgc hg f4
    obtain ⟨k, ek⟩ : ∃ k : Nat, (k : Int) = at_ % (l.length : Int) := ⟨(at_ % (l.length : Int)).toNat, Int.toNat_of_nonneg (Int.emod_nonneg _ nz)⟩
    have KL : Hid (k < l.length) := by show k < _; have := Int.emod_lt_of_pos at_ (show 0 < (l.length : Int) by omega); omega
    have kl := KL.out
    have f1 : (l.length : Int) % 18446744073709551616 = l.length := by have := LN.out; omega
    have f1' : IntKind.u64.wrap (l.length : Int) = l.length := by rw [u64_wrap]; exact f1
    have f2 : at_.tmod (l.length : Int) = (k : Int) := by rw [Int.tmod_eq_emod_of_nonneg AT.out.1]; exact ek.symm
    have f2' : at_ % (l.length : Int) = (k : Int) := ek.symm
    have f4 : (k : Int) % 18446744073709551616 = k := by have := LN.out; omega
    have f4' : IntKind.u64.wrap (k : Int) = k := by rw [u64_wrap]; exact f4
    have kd : (k : Int) ≤ d := by have := DC.out; omega
    have k0 : (0 : Int) ≤ k := by omega
    clear ek
    have tk : (l.take k).length = k := by rw [List.length_take]; omega
    have P1 : Hid (Calls Try.prog 6 #[.slice (some ⟨g, 0, none⟩) k d] w1 fun e w' => (∃ z, e = .returned (.tuple #[z, .int .i64 (decE (l.take k)).1, .int .i64 (decE (l.take k)).2]) ∧ DecZ (decM (l.take k)) (decE (l.take k)).2 w1.heap.size w' z) ∧ Below w1.heap.size w1 w') := by
      have q := DecodeX (some ⟨g, 0, none⟩) d (l.take k) w1 (fun b hb => F8.out b (List.mem_of_mem_take hb)) (HB.out.take k) (by rw [tk]; have := DC.out; omega)
      rw [tk] at q
      exact q
    have N1 : Hid (¬ (decE (l.take k)).2 = 0) := fun h => by
      have q := begins (l := l.take k) (l' := l) (t := l.drop k) F8.out (List.take_append_drop k l).symm h (by rw [FD.out])
      have := congrArg List.length q
      rw [List.length_drop, List.length_nil] at this
      omega
    generalize (decE (l.take k)).1 = a1 at *
    generalize (decE (l.take k)).2 = b1 at *
    generalize (decM (l.take k)) = m1 at *
    clear tk
    go_wp2_with fail
    refine (P1.out).mono ?_
    rintro e w4 ⟨⟨zz, rfl, hz⟩, hb4⟩
    obtain ⟨m4, y1, c1, y2, c2, y3, c3, e1, rfl, hq⟩ := hz.im
    have B4 : Hid (Below w.heap.size w w4) := B1.out.trans (hb4.mono B1.out.size)
    have HB4 : Hid (BySl (some ⟨g, 0, none⟩) l w4) := HB.out.up hb4
    clear hb4 hq hz e1 P1 f1 f1' f2 f2' f4 f4' kd k0 AT
    go_upto_region 5 with fail
    obtain ⟨V4, eV⟩ : ∃ V, V = w4.alloc (.cells #[.string m4.nm, .slice y1 m4.cs.length c1, .slice y2 m4.fs.length c2, .slice y3 m4.js.length c3] 27 (0, 0)) := ⟨_, rfl⟩
    rw [← eV]
    have A4 : Below w4.heap.size w4 V4 := by rw [eV]; exact alB _ _
    have B5 : Hid (Below w.heap.size w V4) := B4.out.trans (A4.mono B4.out.size)
    have HB5 : Hid (BySl (some ⟨g, 0, none⟩) l V4) := HB4.out.up A4
    clear A4 eV B4 HB4
    have CL : Hid (Calls Try.prog 10 #[.slice (some ⟨g, 0, none⟩) l.length d] V4 fun e w' => (∃ y d, e = .returned (.slice y l.length d) ∧ Sb V4.heap.size l (.slice y l.length d) w') ∧ Below V4.heap.size V4 w') := CloneS _ _ l V4 HB5.out (by have := LN.out; omega)
    have BG : Hid ((decE (l ++ t)).2 = 0 ↔ t = []) := by
      refine ⟨fun h => begins (l := l) (l' := l ++ t) (t := t) (fun b hb => by rcases List.mem_append.1 hb with z | z; exact F8.out b z; exact HZ8.out b z) rfl (by rw [FD.out]) h, fun h => ?_⟩
      rw [h, List.append_nil, FD.out]
    have DX : Hid (∀ (y : Option Addr) (c : Nat) (V : World), BySl y (l ++ t) V → (l ++ t).length ≤ c → Calls Try.prog 6 #[.slice y (l ++ t).length c] V fun e w' => (∃ z, e = .returned (.tuple #[z, .int .i64 (decE (l ++ t)).1, .int .i64 (decE (l ++ t)).2]) ∧ DecZ (decM (l ++ t)) (decE (l ++ t)).2 V.heap.size w' z) ∧ Below V.heap.size V w') := fun y c V hy hc => DecodeX y c (l ++ t) V (fun b hb => by rcases List.mem_append.1 hb with z | z; exact F8.out b z; exact HZ8.out b z) hy hc
    generalize (decE (l ++ t)).1 = a2 at *
    generalize (decE (l ++ t)).2 = b2 at *
    generalize (decM (l ++ t)) = m2 at *
    obtain ⟨i0, hi, hz0, hz1, hz2⟩ := u8_info
    go_wp2_with fail
    refine (CL.out).mono ?_
    rintro e w5 ⟨⟨u2, d2, rfl, hs⟩, hb5⟩
    have B6 : Hid (Below w.heap.size w w5) := B5.out.trans (hb5.mono B5.out.size)
    have S6 : Hid (Sb V4.heap.size l (.slice u2 l.length d2) w5) := hs
    have W6 : Hid (V4.heap.size ≤ w5.heap.size ∧ w.heap.size ≤ V4.heap.size) := ⟨hb5.size, B5.out.size⟩
    have HZ6 : Hid (BySl z t w5) := HZ.out.up B6.out
    have FF : Hid (Below V4.heap.size V4 w5) := hb5
    clear hb5 hs CL HB5 HB HZ F8 FD HZ8
    cases z with
    | none =>
      obtain ⟨rfl, rfl⟩ := HZ0.out rfl
      obtain ⟨g2, cur2, eu, _, _⟩ := S6.out.row (by have := L8.out; omega)
      subst eu
      have dc : l.length ≤ d2 := S6.out.cap
      have DY : Hid (Calls Try.prog 6 #[.slice (some ⟨g2, 0, none⟩) l.length d2] w5 fun e w' => (∃ z, e = .returned (.tuple #[z, .int .i64 a2, .int .i64 b2]) ∧ DecZ m2 b2 w5.heap.size w' z) ∧ Below w5.heap.size w5 w') := by
        have q := DX.out (some ⟨g2, 0, none⟩) d2 w5 (by rw [List.append_nil]; exact S6.out.bysl) (by rw [List.append_nil]; exact dc)
        rw [List.append_nil] at q
        exact q
      have DB : Hid (Below w.heap.size w w5) := B6.out
      go_wp2_with fail
      refine (DY.out).mono ?_
      rintro e w7 ⟨⟨zz, rfl, hz⟩, hb7⟩
      obtain ⟨m7, v1, k1, v2, k2, v3, k3, e1, rfl, hq⟩ := hz.im
      have B7 : Hid (Below w.heap.size w w7) := DB.out.trans (hb7.mono DB.out.size)
      clear hb7 hq hz e1 DY DB
      go_upto_region 6 with fail
      obtain ⟨V7, eV⟩ : ∃ V, V = w7.alloc (.cells #[.string m7.nm, .slice v1 m7.cs.length k1, .slice v2 m7.fs.length k2, .slice v3 m7.js.length k3] 27 (0, 0)) := ⟨_, rfl⟩
      rw [← eV]
      have A7 : Below w7.heap.size w7 V7 := by rw [eV]; exact alB _ _
      have B8 : Hid (Below w.heap.size w V7) := B7.out.trans (A7.mono B7.out.size)
      clear A7 eV B7
      have n1 : ¬ b1 = 0 := N1.out
      have n1' : (b1 != 0) = true := by rw [bne_iff_ne]; exact n1
      have n1'' : (b1 == 0) = false := by rw [beq_eq_false_iff_ne]; exact n1
      have qb : b2 = 0 := by simpa using BG.out
      subst qb
      go_wp2_with fail
      refine (awake_of _).mono ?_
      rintro e w9 ⟨rfl, hb9⟩
      have B9 : Hid (Below w.heap.size w w9) := B8.out.trans (hb9.mono B8.out.size)
      clear hb9
      go_wp2
      go_ret
      exact ⟨by first | rfl | simp, B9.out⟩
    | some a =>
      have SRC : Hid (∀ (j : Nat) u, (bvL t)[j]? = some u → w5.cell? (a.add j) = some u) := fun j u hu => by
        unfold bvL at hu
        rw [List.getElem?_map] at hu
        obtain ⟨b, hb, rfl⟩ := Option.map_eq_some_iff.1 hu
        obtain ⟨a', e, _, h⟩ := HZ6.out.at j b hb
        cases e
        exact h
      have ONE : Hid (∀ u ∈ bvL t, u.oneCell' = true) := fun u hu => by
        unfold bvL at hu
        obtain ⟨b, _, rfl⟩ := List.mem_map.1 hu
        rfl
      go_wp2_with (at_builtin; refine wpList_append_own _ rfl _ _ 22 rfl V4.heap.size 5 i0 _ 1 1 Try.underlying22 hi hz0 hz1 hz2 rfl (by decide) _ l.length (bvL l) rfl S6.out a t.length zc (bvL t) rfl (by rw [bvL_len]; omega) SRC.out ONE.out (by have := LN.out; have := HZC.out; simp [maxLen]; omega) (by have := LN.out; have := HZC.out; omega) W6.out.1 ?_)
      intro v' w6 k1 k2 k3
      have S7 : Hid (Sb V4.heap.size (l ++ t) v' w6) := Sb.app k1 rfl rfl
      have DB : Hid (Below w.heap.size w w6) := B5.out.trans ((FF.out.grown k2 W6.out.1 (fun j hj => S6.out.own j hj)).mono B5.out.size)
      obtain ⟨y7, n7, d7, rfl⟩ := S7.out.form
      have en := S7.out.len
      have DY : Hid (Calls Try.prog 6 #[.slice y7 n7 d7] w6 fun e w' => (∃ z, e = .returned (.tuple #[z, .int .i64 a2, .int .i64 b2]) ∧ DecZ m2 b2 w6.heap.size w' z) ∧ Below w6.heap.size w6 w') := by
        have q := DX.out y7 d7 w6 S7.out.bysl S7.out.cap
        rw [← en] at q
        exact q
      clear k1 k2 k3 S7 DX SRC ONE en
      go_wp2_with fail
      refine (DY.out).mono ?_
      rintro e w7 ⟨⟨zz, rfl, hz⟩, hb7⟩
      obtain ⟨m7, v1, k1, v2, k2, v3, k3, e1, rfl, hq⟩ := hz.im
      have B7 : Hid (Below w.heap.size w w7) := DB.out.trans (hb7.mono DB.out.size)
      clear hb7 hq hz e1 DY DB
      go_upto_region 6 with fail
      obtain ⟨V7, eV⟩ : ∃ V, V = w7.alloc (.cells #[.string m7.nm, .slice v1 m7.cs.length k1, .slice v2 m7.fs.length k2, .slice v3 m7.js.length k3] 27 (0, 0)) := ⟨_, rfl⟩
      rw [← eV]
      have A7 : Below w7.heap.size w7 V7 := by rw [eV]; exact alB _ _
      have B8 : Hid (Below w.heap.size w V7) := B7.out.trans (A7.mono B7.out.size)
      clear A7 eV B7
      have n1 : ¬ b1 = 0 := N1.out
      have n1' : (b1 != 0) = true := by rw [bne_iff_ne]; exact n1
      have n1'' : (b1 == 0) = false := by rw [beq_eq_false_iff_ne]; exact n1
      by_cases qt : t = []
      · have qb : b2 = 0 := BG.out.2 qt
        subst qb
        have tl : t.length = 0 := by rw [qt]; rfl
        have tl' : (t.length : Int) = 0 := by omega
        go_wp2_with fail
        refine (awake_of _).mono ?_
        rintro e w9 ⟨rfl, hb9⟩
        have B9 : Hid (Below w.heap.size w w9) := B8.out.trans (hb9.mono B8.out.size)
        clear hb9
        go_wp2
        go_ret
        exact ⟨by first | rfl | simp, B9.out⟩
      · have qb : ¬ b2 = 0 := fun z => qt (BG.out.1 z)
        have qz : (b2 == 0) = false := by rw [beq_eq_false_iff_ne]; exact qb
        have tl : ¬ t.length = 0 := fun h => qt (List.eq_nil_of_length_eq_zero h)
        have tl' : ¬ (t.length : Int) = 0 := by omega
        have tl2 : ((t.length : Int) == 0) = false := by rw [beq_eq_false_iff_ne]; exact tl'
        go_wp2_with fail
        refine (awake_of _).mono ?_
        rintro e w9 ⟨rfl, hb9⟩
        have B9 : Hid (Below w.heap.size w w9) := B8.out.trans (hb9.mono B8.out.size)
        clear hb9
        go_wp2
        go_ret
        exact ⟨by first | rfl | simp, B9.out⟩
end Go.Proofs.Ytkickdmomompjaa
