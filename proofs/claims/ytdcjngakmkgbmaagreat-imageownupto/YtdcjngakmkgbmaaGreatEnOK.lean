/- The document's image: its bytes, exactly; no statement of the seat is proved here. -/
import Derived.Test.YtdcjngakmkgbmaaGreatKoB4
import Derived.Test.YtdcjngakmkgbmaaGreatKoB3
import Derived.Deep.RegionLaw
namespace Go.Proofs.YtdcjngakmkgbmaaGreat
set_option linter.unusedVariables false
open Go.RowKit
theorem bitR (b : Bool) (w : World) : Calls Tryz.prog 45 #[.bool b] w fun e w' => e = .returned (.int .u8 (bbN b : Int)) ∧ w' = w := by
  cases b
  · go_enter Tryz.func45, Tryz.ntmps45
    go_wp2
    go_ret
    exact ⟨rfl, rfl⟩
  · go_enter Tryz.func45, Tryz.ntmps45
    go_wp2
    go_ret
    exact ⟨rfl, rfl⟩
theorem two_new (W : World) (a b : Value) (t : TypeId) : ∀ j u, ([a, b] : List Value)[j]? = some u → (W.alloc (.cells #[a, b] t)).cell? ((⟨W.heap.size, 0, none⟩ : Addr).add j) = some u := by
  intro j u hj
  rw [Addr.add_mid, Nat.zero_add]
  have e := heap_alloc_last W (.cells #[a, b] t)
  rw [World.cell?, e]
  match j, hj with
  | 0, hj => simpa using hj
  | 1, hj => simpa using hj
  | j + 2, hj => simp at hj
set_option maxRecDepth 20000 in
set_option maxHeartbeats 8000000 in
theorem BodyR (B : Nat) (m : ImR) (x1 x2 x3 : Option Addr) (p1 p2 p3 : Nat) (w : World) {S : Nat → Prop} (hB : B ≤ w.heap.size) (hS : ∀ b, S b → b < B) (hq : ImQ S w m x1 x2 x3) (ho : ImS m) :
    Calls Tryz.prog 20 #[.agg #[.string m.nm, .slice x1 m.cs.length p1, .slice x2 m.fs.length p2, .slice x3 m.js.length p3]] w fun e w' => ∃ v', e = .returned v' ∧ Sb B (imbN m) v' w' ∧ Bq B w w' := by
  obtain ⟨i0, hi, hz0, hz1, hz2⟩ := u8_info
  have OK : Hid (ImS m) := ho
  obtain ⟨o1, o2, o3, o4, o5, o6, o7⟩ := ho
  obtain ⟨AW, eW⟩ : ∃ AW, AW = w.alloc (.cells #[.string m.nm, .slice x1 m.cs.length p1, .slice x2 m.fs.length p2, .slice x3 m.js.length p3] 26 (0, 0)) := ⟨_, rfl⟩
  have AX : Hid (AW.heap[w.heap.size]? = some (.cells #[.string m.nm, .slice x1 m.cs.length p1, .slice x2 m.fs.length p2, .slice x3 m.js.length p3] 26 (0, 0))) := by rw [eW]; exact heap_alloc_last _ _
  have AB : Hid (Below w.heap.size w AW) := by rw [eW]; exact (Below.refl _ _).alloc (Nat.le_refl _) _
  have QA : Hid (Bq B w AW) := Bq.up AB.out hB
  have BQ : Hid (∀ V, Bq B AW V → B ≤ V.heap.size) := fun V hV => Nat.le_trans (Nat.le_trans hB AB.out.size) hV.b.size
  have RC : Hid (∀ V, Bq B AW V → RwF 11 (Is ceC) S V x1 m.cs) := fun V hV => hq.1.fr (fun q hqq => (QA.out.trans hV).b.cell (hS _ hqq))
  have RF : Hid (∀ V, Bq B AW V → RwF 8 (FlP S V) S V x2 m.fs) := fun V hV => hq.2.1.frK keptF (fun q hqq => (QA.out.trans hV).b.cell (hS _ hqq))
  have RJ : Hid (∀ V, Bq B AW V → RwF 7 (JbP S V) S V x3 m.js) := fun V hV => hq.2.2.frK keptJ (fun q hqq => (QA.out.trans hV).b.cell (hS _ hqq))
  have HS : Hid (∀ b, S b → b < B) := hS
  have N1 : Hid (m.cs.length ≤ 4096) := o5
  have N2 : Hid (m.fs.length ≤ 64) := o6
  have N3 : Hid (m.js.length ≤ 16) := o7
  have nmz : m.nm.size ≤ 4194304 := o1
  have O2 : Hid (∀ c ∈ m.cs, CeOk c) := o2
  have O3 : Hid (∀ f ∈ m.fs, FlS f) := o3
  have O4 : Hid (∀ j ∈ m.js, JbOk j) := o4
  obtain ⟨bz0, eb⟩ : ∃ z, z = sbN ⟨#[114, 108, 121, 1]⟩ := ⟨_, rfl⟩
  have E0 : Hid (bz0 = sbN ⟨#[114, 108, 121, 1]⟩) := eb
  obtain ⟨w0, ew0⟩ : ∃ z, z = AW.alloc (.cells #[.int .u8 114, .int .u8 108, .int .u8 121, .int .u8 1] 5 (0, 0)) := ⟨_, rfl⟩
  have S0 : Hid (Sb B bz0 (.slice (some ⟨AW.heap.size, 0, none⟩) 4 4) w0) := by
    rw [eb, ew0]
    exact ⟨rfl, Or.inr ⟨AW.heap.size, 4, _, rfl, Nat.le_trans hB AB.out.size, heap_alloc_last _ _, Nat.le_refl _, by decide, rfl, rfl⟩⟩
  have Q0 : Hid (Bq B AW w0) := by rw [ew0]; exact Bq.up ((Below.refl _ _).alloc (Nat.le_refl _) _) (Nat.le_trans hB AB.out.size)
  have L0 : Hid (bz0.length ≤ 4) := by show _ ≤ _; rw [eb]; decide
  have i0' : AW.cell? ⟨w.heap.size, 0, none⟩ = some (.string m.nm) := by simp [World.cell?, AX.out]
  have X := Q0.out.k _ _ _ _ AX.out (by decide) (by decide)
  have j0 : (AW.alloc (.cells #[.int .u8 114, .int .u8 108, .int .u8 121, .int .u8 1] 5 (0, 0))).cell? ⟨w.heap.size, 0, none⟩ = some (.string m.nm) := by rw [← ew0]; simp [World.cell?, X]
  have EW0 : Hid (w0 = AW.alloc (.cells #[.int .u8 114, .int .u8 108, .int .u8 121, .int .u8 1] 5 (0, 0))) := ew0
  clear ew0
  clear X hB hS hq o1 o2 o3 o4 o5 o6 o7 eb
  go_enter Tryz.func20, Tryz.ntmps20
  go_upto_region 1 with fail
  rw [← eW]
  clear eW
  go_wp2_with (go_at_call 43; rw [← EW0.out]; refine (textR B _ _ _ _ S0.out (BQ.out _ Q0.out) (by have := L0.out; omega) nmz).mono ?_)
  first | (rintro e w1 ⟨v1, he, h1, hb1⟩; have he' := he) | (rintro e w1 v1 he h1 hb1)
  have hsz : m.nm.size ≤ 4194304 := nmz
  subst he
  have Q1 : Hid (Bq B AW w1) := Q0.out.trans hb1
  obtain ⟨bz1, ez⟩ : ∃ z, z = bz0 ++ tbN m.nm := ⟨_, rfl⟩
  rw [← ez] at h1
  have S1 : Hid (Sb B bz1 v1 w1) := h1
  have E1 : Hid (bz1 = bz0 ++ tbN m.nm) := ez
  have L1 : Hid (bz1.length ≤ 4194316) := by show _ ≤ _; rw [ez, List.length_append, tbN_len]; have := L0.out; omega
  obtain ⟨tx1, tn1, tc1, rfl⟩ := h1.form
  clear h1 hb1 ez hsz i0' j0 EW0
  have X := Q1.out.k _ _ _ _ AX.out (by decide) (by decide)
  have i1 : w1.cell? ⟨w.heap.size, 1, none⟩ = some (.slice x1 m.cs.length p1) := by simp [World.cell?, X]
  clear X
  go_wp2_with (go_at_call 44; refine (numR B _ _ _ _ S1.out (BQ.out _ Q1.out) (by have := L1.out; omega)).mono ?_)
  first | (rintro e w2 ⟨v2, he, h1, hb1⟩; have he' := he) | (rintro e w2 v2 he h1 hb1)
  subst he
  have Q2 : Hid (Bq B AW w2) := Q1.out.trans hb1
  obtain ⟨bz2, ez⟩ : ∃ z, z = bz1 ++ nbN m.cs.length := ⟨_, rfl⟩
  rw [← ez] at h1
  have S2 : Hid (Sb B bz2 v2 w2) := h1
  have E2 : Hid (bz2 = bz1 ++ nbN m.cs.length) := ez
  have L2 : Hid (bz2.length ≤ 4194324) := by show _ ≤ _; rw [ez, List.length_append, nbN_len]; have := L1.out; omega
  obtain ⟨tx2, tn2, tc2, rfl⟩ := h1.form
  clear h1 hb1 ez i1
  go_upto_region 3 with fail
  go_upto_region 4 with fail
  have PT : Hid (∀ k, (bz2 ++ (m.cs.take k).flatMap cbN).length ≤ 34364149780) := fun k => by
    have q := flat_le cbN 8388661 (m.cs.take k) (fun e he => by rw [cbN_len]; have q := O2.out e (List.mem_of_mem_take he); have q1 : e.is.size ≤ 4194304 := q.2.2.2.2.2.2.1; have q2 : e.ad.size ≤ 4194304 := q.2.2.2.2.2.2.2.2; omega)
    have q2 : (m.cs.take k).length ≤ 4096 := Nat.le_trans (List.length_take_le' k m.cs) N1.out
    rw [List.length_append]
    have := L2.out
    omega
  go_loopw [3, 4] (fun u i wr => ∃ (k : Nat) (sx : Option Addr) (sn sc : Nat), k ≤ m.cs.length ∧ u = .slice sx sn sc ∧ i = .int .i64 k ∧ Sb B (bz2 ++ (m.cs.take k).flatMap cbN) (.slice sx sn sc) wr ∧ Bq B AW wr) (fun _ i _ => m.cs.length - (intOf i).toNat)
  case atStart => exact ⟨0, _, _, _, Nat.zero_le _, rfl, rfl, by rw [List.take_zero, List.flatMap_nil, List.append_nil]; exact S2.out, Q2.out⟩
  case round =>
    obtain ⟨k, tx10, tn10, tc10, hk, rfl, rfl, hw, hb⟩ := hrel
    obtain ⟨bz10, e10⟩ : ∃ z, z = bz2 ++ (m.cs.take k).flatMap cbN := ⟨_, rfl⟩
    rw [← e10] at hw
    have PK := PT.out k
    rw [← e10] at PK
    obtain ⟨w9, f9⟩ : ∃ z, z = wr := ⟨_, rfl⟩
    rw [← f9] at hb hw ⊢
    have S9 : Hid (Sb B bz10 (.slice tx10 tn10 tc10) w9) := hw
    have E10 : Hid (bz10 = bz2 ++ (m.cs.take k).flatMap cbN) := e10
    have L10 : Hid (bz10.length ≤ 34364149780) := PK
    have Q9 : Hid (Bq B AW w9) := hb
    clear hw hb e10 PK f9
    have X := Q9.out.k _ _ _ _ AX.out (by decide) (by decide)
    have i1 : w9.cell? ⟨w.heap.size, 1, none⟩ = some (.slice x1 m.cs.length p1) := by simp [World.cell?, X]
    clear X
    by_cases hlt : k < m.cs.length
    · obtain ⟨a, rfl⟩ := (RC.out w9 Q9.out).some (by omega)
      obtain ⟨c, cv, ce, cb, rfl, ck⟩ := (RC.out w9 Q9.out).el k hlt
      have e0 := ck.c0
      have e1 := ck.cp 0 _ rfl
      have e2 := ck.cp 1 _ rfl
      have e3 := ck.cp 2 _ rfl
      have e4 := ck.cp 3 _ rfl
      have e5 := ck.cp 4 _ rfl
      have e6 := ck.cp 5 _ rfl
      have e7 := ck.cp 6 _ rfl
      have e8 := ck.cp 7 _ rfl
      have e9 := ck.cp 8 _ rfl
      have e10 := ck.cp 9 _ rfl
      have CO : Hid (CeOk c) := O2.out c (List.mem_of_getElem? ce)
      have TK : Hid (bz2 ++ (m.cs.take (k + 1)).flatMap cbN = bz10 ++ cbN c) := by show _ = _; rw [E10.out, List.take_add_one, ce, List.flatMap_append]; simp [List.append_assoc]
      have LT : Hid (k < m.cs.length) := hlt
      have kl : (k : Int) < m.cs.length := by omega
      have ek : wrap64 ((k : Int) + 1) = (k : Int) + 1 := by have := N1.out; unfold wrap64; omega
      have za := block_lt_of_cell e0
      obtain ⟨w10, a10⟩ : ∃ z, z = w9.alloc (.cells #[.int .u8 c.kd, .bool c.sb, .int .i64 c.lo, .int .i64 c.hi, .int .i64 c.mx, .int .u8 c.ik, .int .u64 c.ib, .string c.is, .bool c.kp, .int .i64 c.dr, .string c.ad] 40 (0, 0)) := ⟨_, rfl⟩
      have CX : Hid (w10.heap[w9.heap.size]? = some (.cells #[.int .u8 c.kd, .bool c.sb, .int .i64 c.lo, .int .i64 c.hi, .int .i64 c.mx, .int .u8 c.ik, .int .u64 c.ib, .string c.is, .bool c.kp, .int .i64 c.dr, .string c.ad] 40 (0, 0))) := by rw [a10]; exact heap_alloc_last _ _
      have CB : Hid (Below w9.heap.size w9 w10) := by rw [a10]; exact (Below.refl _ _).alloc (Nat.le_refl _) _
      have QW : Hid (Bq B AW w10) := Q9.out.trans (Bq.up CB.out (BQ.out _ Q9.out))
      have Q10 : Hid (Bq B w10 w10) := Bq.refl _ _
      have BQ : Hid (∀ V, Bq B w10 V → B ≤ V.heap.size) := fun V hV => Nat.le_trans (BQ.out _ QW.out) hV.b.size
      have S10 : Hid (Sb B bz10 (.slice tx10 tn10 tc10) w10) := S9.out.below CB.out
      have BQ9 : Hid (∀ V, Bq B w10 V → V.heap[w9.heap.size]? = some (.cells #[.int .u8 c.kd, .bool c.sb, .int .i64 c.lo, .int .i64 c.hi, .int .i64 c.mx, .int .u8 c.ik, .int .u64 c.ib, .string c.is, .bool c.kp, .int .i64 c.dr, .string c.ad] 40 (0, 0))) := fun V hV => hV.k _ _ _ _ CX.out (by decide) (by decide)
      have KK : Hid (c.kd = ((c.kd % (256 : Int)).toNat : Int)) := by show _ = _; rw [by_nat]; have := wf_u8 CO.out.1; omega
      clear hlt ce cb ck hk
      go_upto_region 7 with fail
      rw [← a10]
      clear a10 za i1 e0 e1 e2 e3 e4 e5 e6 e7 e8 e9 e10
      have d0 : w10.cell? ⟨w9.heap.size, 0, none⟩ = some (.int .u8 c.kd) := by simp [World.cell?, CX.out]
      have d1 : w10.cell? ⟨w9.heap.size, 1, none⟩ = some (.bool c.sb) := by simp [World.cell?, CX.out]
      have c0 : w10.drew.cell? ⟨w9.heap.size, 0, none⟩ = some (.int .u8 c.kd) := d0
      have c1 : w10.drew.cell? ⟨w9.heap.size, 1, none⟩ = some (.bool c.sb) := d1
      have GA : Hid (∀ X : Obj, Below w10.heap.size w10 (w10.drew.alloc X)) := fun X => (Below.refl _ _).drew.alloc (Nat.le_refl _) X
      have SD : Hid (∀ X : Obj, Sb B bz10 (.slice tx10 tn10 tc10) (w10.drew.alloc X)) := fun X => S10.out.below (GA.out X)
      have BD : Hid (B ≤ w10.heap.size) := BQ.out _ Q10.out
      have LD : Hid (bz10.length ≤ 34364149780) := L10.out
      go_cut [3] (fun s3 wx => (∃ x n c, s3 = .slice x n c) ∧ Sb B (bz10 ++ [(c.kd % (256 : Int)).toNat, bbN c.sb]) s3 wx ∧ Bq B w10 wx)
      case first =>
        go_region_law (first
          | (rw [if_pos (by rfl)]; go_simp; refine (bitR _ _).mono ?_; rintro e wN ⟨rfl, rfl⟩)
          | (rw [if_pos (by rfl)]; refine wp_append_own _ _ _ 27 rfl B 5 i0 _ 1 1 Tryz.underlying27 hi hz0 hz1 hz2 rfl (by decide) _ bz10.length (bvL bz10) rfl (SD.out _) ⟨w10.heap.size, 0, none⟩ 2 2 [.int .u8 c.kd, .int .u8 (bbN c.sb : Int)] rfl rfl (two_new _ _ _ _) (by intro u hu; simp at hu; rcases hu with rfl | rfl <;> rfl) (by have := LD.out; unfold maxLen; omega) (by have := LD.out; omega) (by have := BD.out; simp; omega) ?_; intro v11 w11 k1 k2 k3; have S11 : Sb B (bz10 ++ [(c.kd % (256 : Int)).toNat, bbN c.sb]) v11 w11 := Sb.app k1 rfl (by rw [show bvL [(c.kd % (256 : Int)).toNat, bbN c.sb] = [.int .u8 c.kd, .int .u8 (bbN c.sb : Int)] by unfold bvL; simp only [List.map_cons, List.map_nil, ← KK.out]]); have Q11 : Bq B w10 w11 := (Bq.up (GA.out _) BD.out).grown (SD.out _) k2 (by have := BD.out; simp; omega); obtain ⟨ux, un, uc, hv⟩ := S11.form; subst hv; clear k1 k2 k3))
        all_goals
          refine Met.intro ?_
          go_step
          go_meet
          case rel => exact ⟨⟨_, _, _, rfl⟩, by assumption, by assumption⟩
      case rest =>
        obtain ⟨⟨tx11, tn11, tc11, hv⟩, h1, hb1⟩ := hcut
        subst hv
        obtain ⟨w11, fw⟩ : ∃ z, z = wc := ⟨_, rfl⟩
        rw [← fw] at h1 hb1 ⊢
        clear fw wc SD BD LD GA c0 c1 d0 d1
        have Q11 : Hid (Bq B w10 w11) := Q10.out.trans hb1
        obtain ⟨bz11, ez⟩ : ∃ z, z = bz10 ++ [(c.kd % (256 : Int)).toNat, bbN c.sb] := ⟨_, rfl⟩
        rw [← ez] at h1
        have S11 : Hid (Sb B bz11 (.slice tx11 tn11 tc11) w11) := h1
        have E11 : Hid (bz11 = bz10 ++ [(c.kd % (256 : Int)).toNat, bbN c.sb]) := ez
        have L11 : Hid (bz11.length ≤ 34364149782) := by show _ ≤ _; rw [ez, List.length_append]; have := L10.out; simp; omega
        have QC11 : Hid (Bq B w10 w11) := hb1
        clear h1 hb1 ez
        have X := Q11.out.k _ _ _ _ CX.out (by decide) (by decide)
        have i2 : w11.cell? ⟨w9.heap.size, 2, none⟩ = some (.int .i64 c.lo) := by simp [World.cell?, X]
        clear X
        go_wp2_with (go_at_call 44; refine (numR B _ _ _ _ S11.out (BQ.out _ Q11.out) (by have := L11.out; omega)).mono ?_)
        first | (rintro e w12 ⟨v12, he, h1, hb1⟩; have he' := he) | (rintro e w12 v12 he h1 hb1)
        subst he
        have Q12 : Hid (Bq B w10 w12) := Q11.out.trans hb1
        obtain ⟨bz12, ez⟩ : ∃ z, z = bz11 ++ nbN c.lo := ⟨_, rfl⟩
        rw [← ez] at h1
        have S12 : Hid (Sb B bz12 v12 w12) := h1
        have E12 : Hid (bz12 = bz11 ++ nbN c.lo) := ez
        have L12 : Hid (bz12.length ≤ 34364149790) := by show _ ≤ _; rw [ez, List.length_append, nbN_len]; have := L11.out; omega
        obtain ⟨tx12, tn12, tc12, rfl⟩ := h1.form
        clear h1 hb1 ez i2
        have X := Q12.out.k _ _ _ _ CX.out (by decide) (by decide)
        have i3 : w12.cell? ⟨w9.heap.size, 3, none⟩ = some (.int .i64 c.hi) := by simp [World.cell?, X]
        clear X
        go_wp2_with (go_at_call 44; refine (numR B _ _ _ _ S12.out (BQ.out _ Q12.out) (by have := L12.out; omega)).mono ?_)
        first | (rintro e w13 ⟨v13, he, h1, hb1⟩; have he' := he) | (rintro e w13 v13 he h1 hb1)
        subst he
        have Q13 : Hid (Bq B w10 w13) := Q12.out.trans hb1
        obtain ⟨bz13, ez⟩ : ∃ z, z = bz12 ++ nbN c.hi := ⟨_, rfl⟩
        rw [← ez] at h1
        have S13 : Hid (Sb B bz13 v13 w13) := h1
        have E13 : Hid (bz13 = bz12 ++ nbN c.hi) := ez
        have L13 : Hid (bz13.length ≤ 34364149798) := by show _ ≤ _; rw [ez, List.length_append, nbN_len]; have := L12.out; omega
        obtain ⟨tx13, tn13, tc13, rfl⟩ := h1.form
        clear h1 hb1 ez i3
        have X := Q13.out.k _ _ _ _ CX.out (by decide) (by decide)
        have i4 : w13.cell? ⟨w9.heap.size, 4, none⟩ = some (.int .i64 c.mx) := by simp [World.cell?, X]
        clear X
        go_wp2_with (go_at_call 44; refine (numR B _ _ _ _ S13.out (BQ.out _ Q13.out) (by have := L13.out; omega)).mono ?_)
        first | (rintro e w14 ⟨v14, he, h1, hb1⟩; have he' := he) | (rintro e w14 v14 he h1 hb1)
        subst he
        have Q14 : Hid (Bq B w10 w14) := Q13.out.trans hb1
        obtain ⟨bz14, ez⟩ : ∃ z, z = bz13 ++ nbN c.mx := ⟨_, rfl⟩
        rw [← ez] at h1
        have S14 : Hid (Sb B bz14 v14 w14) := h1
        have E14 : Hid (bz14 = bz13 ++ nbN c.mx) := ez
        have L14 : Hid (bz14.length ≤ 34364149806) := by show _ ≤ _; rw [ez, List.length_append, nbN_len]; have := L13.out; omega
        obtain ⟨tx14, tn14, tc14, rfl⟩ := h1.form
        clear h1 hb1 ez i4
        have X := Q14.out.k _ _ _ _ CX.out (by decide) (by decide)
        have i5 : w14.cell? ⟨w9.heap.size, 5, none⟩ = some (.int .u8 c.ik) := by simp [World.cell?, X]
        have i6 : w14.cell? ⟨w9.heap.size, 6, none⟩ = some (.int .u64 c.ib) := by simp [World.cell?, X]
        have i7 : w14.cell? ⟨w9.heap.size, 7, none⟩ = some (.string c.is) := by simp [World.cell?, X]
        clear X
        go_wp2_with (go_at_call 46; refine (valueR B _ _ _ _ _ _ S14.out (BQ.out _ Q14.out) (by have := L14.out; omega) CO.out.2.2.2.2.2.2.1 (wf_u8 CO.out.2.2.2.2.1)).mono ?_)
        first | (rintro e w15 ⟨v15, he, h1, hb1⟩; have he' := he) | (rintro e w15 v15 he h1 hb1)
        have hsz : c.is.size ≤ 4194304 := CO.out.2.2.2.2.2.2.1
        subst he
        have Q15 : Hid (Bq B w10 w15) := Q14.out.trans hb1
        obtain ⟨bz15, ez⟩ : ∃ z, z = bz14 ++ vbN c.ik c.ib c.is := ⟨_, rfl⟩
        rw [← ez] at h1
        have S15 : Hid (Sb B bz15 v15 w15) := h1
        have E15 : Hid (bz15 = bz14 ++ vbN c.ik c.ib c.is) := ez
        have L15 : Hid (bz15.length ≤ 34368344134) := by show _ ≤ _; rw [ez, List.length_append, vbN_len]; have := L14.out; omega
        obtain ⟨tx15, tn15, tc15, rfl⟩ := h1.form
        clear h1 hb1 ez hsz i5 i6 i7
        have X := Q15.out.k _ _ _ _ CX.out (by decide) (by decide)
        have d8 : w15.cell? ⟨w9.heap.size, 8, none⟩ = some (.bool c.kp) := by simp [World.cell?, X]
        have c8 : w15.drew.cell? ⟨w9.heap.size, 8, none⟩ = some (.bool c.kp) := d8
        have d9 : w15.cell? ⟨w9.heap.size, 9, none⟩ = some (.int .i64 c.dr) := by simp [World.cell?, X]
        have c9 : w15.drew.cell? ⟨w9.heap.size, 9, none⟩ = some (.int .i64 c.dr) := d9
        clear X
        go_upto_region 12 with fail
        have GA : Hid (∀ X : Obj, Below w15.heap.size w15 (w15.drew.alloc X)) := fun X => (Below.refl _ _).drew.alloc (Nat.le_refl _) X
        have SD : Hid (∀ X : Obj, Sb B bz15 (.slice tx15 tn15 tc15) (w15.drew.alloc X)) := fun X => S15.out.below (GA.out X)
        have BD : Hid (B ≤ w15.heap.size) := BQ.out _ Q15.out
        have LD : Hid (bz15.length ≤ 34368344134) := L15.out
        go_cut [3] (fun s3 wx => (∃ x n c, s3 = .slice x n c) ∧ Sb B (bz15 ++ [bbN c.kp, (c.dr % (256 : Int)).toNat]) s3 wx ∧ Bq B w15 wx)
        case first =>
          go_region_law (first
            | (rw [if_pos (by rfl)]; go_simp; refine (bitR _ _).mono ?_; rintro e wN ⟨rfl, rfl⟩)
            | (rw [if_pos (by rfl)]; refine wp_append_own _ _ _ 27 rfl B 5 i0 _ 1 1 Tryz.underlying27 hi hz0 hz1 hz2 rfl (by decide) _ bz15.length (bvL bz15) rfl (SD.out _) ⟨w15.heap.size, 0, none⟩ 2 2 [.int .u8 (bbN c.kp : Int), .int .u8 (c.dr % (256 : Int))] rfl rfl (two_new _ _ _ _) (by intro u hu; simp at hu; rcases hu with rfl | rfl <;> rfl) (by have := LD.out; unfold maxLen; omega) (by have := LD.out; omega) (by have := BD.out; simp; omega) ?_; intro v16 w16 k1 k2 k3; have S16 : Sb B (bz15 ++ [bbN c.kp, (c.dr % (256 : Int)).toNat]) v16 w16 := Sb.app k1 rfl (by rw [show bvL [bbN c.kp, (c.dr % (256 : Int)).toNat] = [.int .u8 (bbN c.kp : Int), .int .u8 (c.dr % (256 : Int))] by unfold bvL; simp only [List.map_cons, List.map_nil, by_nat]]); have Q16 : Bq B w15 w16 := (Bq.up (GA.out _) BD.out).grown (SD.out _) k2 (by have := BD.out; simp; omega); obtain ⟨ux, un, uc, hv⟩ := S16.form; subst hv; clear k1 k2 k3))
          all_goals
            refine Met.intro ?_
            go_step
            go_meet
            case rel => exact ⟨⟨_, _, _, rfl⟩, by assumption, by assumption⟩
        case rest =>
          obtain ⟨⟨tx16, tn16, tc16, hv⟩, h1, hb1⟩ := hcut
          subst hv
          obtain ⟨w16, fw⟩ : ∃ z, z = wc := ⟨_, rfl⟩
          rw [← fw] at h1 hb1 ⊢
          clear fw wc SD BD LD GA c8 c9 d8 d9
          have Q16 : Hid (Bq B w10 w16) := Q15.out.trans hb1
          obtain ⟨bz16, ez⟩ : ∃ z, z = bz15 ++ [bbN c.kp, (c.dr % (256 : Int)).toNat] := ⟨_, rfl⟩
          rw [← ez] at h1
          have S16 : Hid (Sb B bz16 (.slice tx16 tn16 tc16) w16) := h1
          have E16 : Hid (bz16 = bz15 ++ [bbN c.kp, (c.dr % (256 : Int)).toNat]) := ez
          have L16 : Hid (bz16.length ≤ 34368344136) := by show _ ≤ _; rw [ez, List.length_append]; have := L15.out; simp; omega
          have QC16 : Hid (Bq B w15 w16) := hb1
          clear h1 hb1 ez
          have X := Q16.out.k _ _ _ _ CX.out (by decide) (by decide)
          have i10 : w16.cell? ⟨w9.heap.size, 10, none⟩ = some (.string c.ad) := by simp [World.cell?, X]
          clear X
          go_wp2_with (go_at_call 43; refine (textR B _ _ _ _ S16.out (BQ.out _ Q16.out) (by have := L16.out; omega) CO.out.2.2.2.2.2.2.2.2).mono ?_)
          first | (rintro e w17 ⟨v17, he, h1, hb1⟩; have he' := he) | (rintro e w17 v17 he h1 hb1)
          have hsz : c.ad.size ≤ 4194304 := CO.out.2.2.2.2.2.2.2.2
          subst he
          have Q17 : Hid (Bq B w10 w17) := Q16.out.trans hb1
          obtain ⟨bz17, ez⟩ : ∃ z, z = bz16 ++ tbN c.ad := ⟨_, rfl⟩
          rw [← ez] at h1
          have S17 : Hid (Sb B bz17 v17 w17) := h1
          have E17 : Hid (bz17 = bz16 ++ tbN c.ad) := ez
          have L17 : Hid (bz17.length ≤ 34372538448) := by show _ ≤ _; rw [ez, List.length_append, tbN_len]; have := L16.out; omega
          obtain ⟨tx17, tn17, tc17, rfl⟩ := h1.form
          clear h1 hb1 ez hsz i10
          have HF : Hid (Sb B (bz2 ++ (m.cs.take (k + 1)).flatMap cbN) (.slice tx17 tn17 tc17) w17) := by
            have q := S17.out
            rw [E17.out, E16.out, E15.out, E14.out, E13.out, E12.out, E11.out] at q
            rw [TK.out]
            show Sb _ _ _ _
            simpa [cbN, nsN_cons, nsN_nil, List.append_assoc] using q
          go_wp2
          try rw [ek]
          exact ⟨⟨k + 1, tx17, tn17, tc17, Nat.succ_le_of_lt LT.out, rfl, rfl, HF.out, QW.out.trans Q17.out⟩, msrE LT.out⟩
    · have kl : ¬ (k : Int) < m.cs.length := by omega
      have ek : k = m.cs.length := by omega
      subst ek
      have E20 : Hid (bz10 = bz2 ++ m.cs.flatMap cbN) := by have q := E10.out; rw [List.take_length] at q; exact q
      clear hlt hk E10 PT S2 L2 i1
      obtain ⟨w20, f20⟩ : ∃ z, z = w9 := ⟨_, rfl⟩
      rw [← f20] at S9 Q9
      rw [← f20]
      clear f20
      obtain ⟨bz20, g20⟩ : ∃ z, z = bz10 := ⟨_, rfl⟩
      rw [← g20] at S9 E20 L10
      clear g20
      obtain ⟨tx20, tn20, tc20, gx, gn, gc⟩ : ∃ x n c, x = tx10 ∧ n = tn10 ∧ c = tc10 := ⟨_, _, _, rfl, rfl, rfl⟩
      subst gx gn gc
      have S20 := S9
      have Q20 := Q9
      have L20 := L10
      clear S9 Q9 L10
      have X := Q20.out.k _ _ _ _ AX.out (by decide) (by decide)
      have i1 : w20.cell? ⟨w.heap.size, 1, none⟩ = some (.slice x1 m.cs.length p1) := by simp [World.cell?, X]
      have i2 : w20.cell? ⟨w.heap.size, 2, none⟩ = some (.slice x2 m.fs.length p2) := by simp [World.cell?, X]
      clear X
      go_wp2_with (go_at_call 44; refine (numR B _ _ _ _ S20.out (BQ.out _ Q20.out) (by have := L20.out; omega)).mono ?_)
      first | (rintro e w21 ⟨v21, he, h1, hb1⟩; have he' := he) | (rintro e w21 v21 he h1 hb1)
      subst he
      have Q21 : Hid (Bq B AW w21) := Q20.out.trans hb1
      obtain ⟨bz21, ez⟩ : ∃ z, z = bz20 ++ nbN m.fs.length := ⟨_, rfl⟩
      rw [← ez] at h1
      have S21 : Hid (Sb B bz21 v21 w21) := h1
      have E21 : Hid (bz21 = bz20 ++ nbN m.fs.length) := ez
      have L21 : Hid (bz21.length ≤ 34364149788) := by show _ ≤ _; rw [ez, List.length_append, nbN_len]; have := L20.out; omega
      obtain ⟨tx21, tn21, tc21, rfl⟩ := h1.form
      clear h1 hb1 ez i1 i2
      go_upto_region 15 with fail
      go_upto_region 16 with fail
      have PU : Hid (∀ k, (bz21 ++ (m.fs.take k).flatMap flbN).length ≤ 4437564149788) := fun k => by
        have q := flat_le flbN 68800000000 (m.fs.take k) (fun e he => flbN_len (O3.out e (List.mem_of_mem_take he)))
        have q2 : (m.fs.take k).length ≤ 64 := Nat.le_trans (List.length_take_le' k m.fs) N2.out
        rw [List.length_append]
        have := L21.out
        omega
      go_loopw [3, 6] (fun u i wr => ∃ (k : Nat) (sx : Option Addr) (sn sc : Nat), k ≤ m.fs.length ∧ u = .slice sx sn sc ∧ i = .int .i64 k ∧ Sb B (bz21 ++ (m.fs.take k).flatMap flbN) (.slice sx sn sc) wr ∧ Bq B AW wr) (fun _ i _ => m.fs.length - (intOf i).toNat)
      case atStart => exact ⟨0, _, _, _, Nat.zero_le _, rfl, rfl, by rw [List.take_zero, List.flatMap_nil, List.append_nil]; exact S21.out, Q21.out⟩
      case round =>
        obtain ⟨k, tx30, tn30, tc30, hk, rfl, rfl, hw, hb⟩ := hrel
        obtain ⟨bz30, e30⟩ : ∃ z, z = bz21 ++ (m.fs.take k).flatMap flbN := ⟨_, rfl⟩
        rw [← e30] at hw
        have PK := PU.out k
        rw [← e30] at PK
        obtain ⟨w30, f30⟩ : ∃ z, z = wr := ⟨_, rfl⟩
        rw [← f30] at hb hw ⊢
        have S30 : Hid (Sb B bz30 (.slice tx30 tn30 tc30) w30) := hw
        have E30 : Hid (bz30 = bz21 ++ (m.fs.take k).flatMap flbN) := e30
        have L30 : Hid (bz30.length ≤ 4437564149788) := PK
        have Q30 : Hid (Bq B AW w30) := hb
        clear hw hb e30 PK f30
        have X := Q30.out.k _ _ _ _ AX.out (by decide) (by decide)
        have i2 : w30.cell? ⟨w.heap.size, 2, none⟩ = some (.slice x2 m.fs.length p2) := by simp [World.cell?, X]
        clear X
        by_cases hlt : k < m.fs.length
        · obtain ⟨a, rfl⟩ := (RF.out w30 Q30.out).some (by omega)
          obtain ⟨s, sv, se, sb, ⟨sx, sc, sy, sd, rfl, sq⟩, sk⟩ := (RF.out w30 Q30.out).el k hlt
          have e0 := sk.c0
          have e1 := sk.cp 0 _ rfl
          have e2 := sk.cp 1 _ rfl
          have e3 := sk.cp 2 _ rfl
          have e4 := sk.cp 3 _ rfl
          have e5 := sk.cp 4 _ rfl
          have e6 := sk.cp 5 _ rfl
          have e7 := sk.cp 6 _ rfl
          have SO := O3.out s (List.mem_of_getElem? se)
          have TK : Hid (bz21 ++ (m.fs.take (k + 1)).flatMap flbN = bz30 ++ flbN s) := by show _ = _; rw [E30.out, List.take_add_one, se, List.flatMap_append]; simp [List.append_assoc]
          have F0 : Hid (Calls Tryz.prog 47 #[.slice tx30 tn30 tc30, FlV s sx sy sc sd] w30 fun e w' => ∃ v', e = .returned v' ∧ Sb B (bz30 ++ flbN s) v' w' ∧ Bq B w30 w') := flatR B bz30 _ s sx sy sc sd w30 S30.out (BQ.out _ Q30.out) HS.out sq SO (by have := L30.out; omega)
          have LT : Hid (k < m.fs.length) := hlt
          have kl : (k : Int) < m.fs.length := by omega
          have ek : wrap64 ((k : Int) + 1) = (k : Int) + 1 := by have := N2.out; unfold wrap64; omega
          clear hlt se sb sk sq hk SO
          go_wp2_with (go_at_call 47; refine (F0.out).mono ?_)
          first | (rintro e w31 ⟨v31, he, h1, hb1⟩; have he' := he) | (rintro e w31 v31 he h1 hb1)
          subst he
          rw [← TK.out] at h1
          have H2 : Hid (Sb B (bz21 ++ (m.fs.take (k + 1)).flatMap flbN) v31 w31) := h1
          have Q2 : Hid (Bq B AW w31) := Q30.out.trans hb1
          obtain ⟨ux, un, uc, rfl⟩ := h1.form
          clear h1 hb1 i2 F0 e0 e1 e2 e3 e4 e5 e6 e7
          go_wp2
          try rw [ek]
          exact ⟨⟨k + 1, ux, un, uc, Nat.succ_le_of_lt LT.out, rfl, rfl, H2.out, Q2.out⟩, msrE LT.out⟩
        · have kl : ¬ (k : Int) < m.fs.length := by omega
          have ek : k = m.fs.length := by omega
          subst ek
          have E40 : Hid (bz30 = bz21 ++ m.fs.flatMap flbN) := by have q := E30.out; rw [List.take_length] at q; exact q
          clear hlt hk E30 PU S21 L21 i2
          have X := Q30.out.k _ _ _ _ AX.out (by decide) (by decide)
          have i2 : w30.cell? ⟨w.heap.size, 2, none⟩ = some (.slice x2 m.fs.length p2) := by simp [World.cell?, X]
          have i3 : w30.cell? ⟨w.heap.size, 3, none⟩ = some (.slice x3 m.js.length p3) := by simp [World.cell?, X]
          clear X
          go_wp2_with (go_at_call 44; refine (numR B _ _ _ _ S30.out (BQ.out _ Q30.out) (by have := L30.out; omega)).mono ?_)
          first | (rintro e w31 ⟨v31, he, h1, hb1⟩; have he' := he) | (rintro e w31 v31 he h1 hb1)
          subst he
          have Q31 : Hid (Bq B AW w31) := Q30.out.trans hb1
          obtain ⟨bz31, ez⟩ : ∃ z, z = bz30 ++ nbN m.js.length := ⟨_, rfl⟩
          rw [← ez] at h1
          have S31 : Hid (Sb B bz31 v31 w31) := h1
          have E31 : Hid (bz31 = bz30 ++ nbN m.js.length) := ez
          have L31 : Hid (bz31.length ≤ 4437564149796) := by show _ ≤ _; rw [ez, List.length_append, nbN_len]; have := L30.out; omega
          obtain ⟨tx31, tn31, tc31, rfl⟩ := h1.form
          clear h1 hb1 ez i2 i3
          go_upto_region 20 with fail
          go_upto_region 21 with fail
          have PW : Hid (∀ k, (bz31 ++ (m.js.take k).flatMap jbN).length ≤ 4437916149796) := fun k => by
            have q := flat_le jbN 22000000 (m.js.take k) (fun e he => jbN_len (O4.out e (List.mem_of_mem_take he)))
            have q2 : (m.js.take k).length ≤ 16 := Nat.le_trans (List.length_take_le' k m.js) N3.out
            rw [List.length_append]
            have := L31.out
            omega
          go_loopw [3, 7] (fun u i wr => ∃ (k : Nat) (sx : Option Addr) (sn sc : Nat), k ≤ m.js.length ∧ u = .slice sx sn sc ∧ i = .int .i64 k ∧ Sb B (bz31 ++ (m.js.take k).flatMap jbN) (.slice sx sn sc) wr ∧ Bq B AW wr) (fun _ i _ => m.js.length - (intOf i).toNat)
          case atStart => exact ⟨0, _, _, _, Nat.zero_le _, rfl, rfl, by rw [List.take_zero, List.flatMap_nil, List.append_nil]; exact S31.out, Q31.out⟩
          case round =>
            obtain ⟨k, tx50, tn50, tc50, hk, rfl, rfl, hw, hb⟩ := hrel
            obtain ⟨bz50, e50⟩ : ∃ z, z = bz31 ++ (m.js.take k).flatMap jbN := ⟨_, rfl⟩
            rw [← e50] at hw
            have PK := PW.out k
            rw [← e50] at PK
            obtain ⟨w49, f49⟩ : ∃ z, z = wr := ⟨_, rfl⟩
            rw [← f49] at hb hw ⊢
            have S49 : Hid (Sb B bz50 (.slice tx50 tn50 tc50) w49) := hw
            have E50 : Hid (bz50 = bz31 ++ (m.js.take k).flatMap jbN) := e50
            have L50 : Hid (bz50.length ≤ 4437916149796) := PK
            have Q49 : Hid (Bq B AW w49) := hb
            clear hw hb e50 PK f49
            have X := Q49.out.k _ _ _ _ AX.out (by decide) (by decide)
            have i3 : w49.cell? ⟨w.heap.size, 3, none⟩ = some (.slice x3 m.js.length p3) := by simp [World.cell?, X]
            clear X
            by_cases hlt : k < m.js.length
            · obtain ⟨a, rfl⟩ := (RJ.out w49 Q49.out).some (by omega)
              obtain ⟨j, jv, je, jb, ⟨jx, jc, jy, jd, rfl, jq⟩, jk⟩ := (RJ.out w49 Q49.out).el k hlt
              have e0 := jk.c0
              have e1 := jk.cp 0 _ rfl
              have e2 := jk.cp 1 _ rfl
              have e3 := jk.cp 2 _ rfl
              have e4 := jk.cp 3 _ rfl
              have e5 := jk.cp 4 _ rfl
              have e6 := jk.cp 5 _ rfl
              have JO : Hid (JbOk j) := O4.out j (List.mem_of_getElem? je)
              have TK : Hid (bz31 ++ (m.js.take (k + 1)).flatMap jbN = bz50 ++ jbN j) := by show _ = _; rw [E50.out, List.take_add_one, je, List.flatMap_append]; simp [List.append_assoc]
              have LT : Hid (k < m.js.length) := hlt
              have kl : (k : Int) < m.js.length := by omega
              have ek : wrap64 ((k : Int) + 1) = (k : Int) + 1 := by have := N3.out; unfold wrap64; omega
              have za := block_lt_of_cell e0
              obtain ⟨w50, a50⟩ : ∃ z, z = w49.alloc (.cells #[.string j.nm, .int .i64 j.iv, .int .i64 j.sg, .int .i64 j.pr, .slice jx j.cs.length jc, .slice jy j.bs.length jd, .int .i64 j.bd] 51 (0, 0)) := ⟨_, rfl⟩
              have JX : Hid (w50.heap[w49.heap.size]? = some (.cells #[.string j.nm, .int .i64 j.iv, .int .i64 j.sg, .int .i64 j.pr, .slice jx j.cs.length jc, .slice jy j.bs.length jd, .int .i64 j.bd] 51 (0, 0))) := by rw [a50]; exact heap_alloc_last _ _
              have JB : Hid (Below w49.heap.size w49 w50) := by rw [a50]; exact (Below.refl _ _).alloc (Nat.le_refl _) _
              have QW : Hid (Bq B AW w50) := Q49.out.trans (Bq.up JB.out (BQ.out _ Q49.out))
              have JQ : Hid (∀ V, Bq B w50 V → JbQ S V j jx jy) := fun V hV => jq.fr (fun q hqq => (Bq.trans (Bq.up JB.out (BQ.out _ Q49.out)) hV).b.cell (HS.out _ hqq))
              have BQ : Hid (∀ V, Bq B w50 V → B ≤ V.heap.size) := fun V hV => Nat.le_trans (BQ.out _ QW.out) hV.b.size
              have Q50 : Hid (Bq B w50 w50) := Bq.refl _ _
              have S50 : Hid (Sb B bz50 (.slice tx50 tn50 tc50) w50) := S49.out.below JB.out
              clear hlt je jb jk hk jq
              go_upto_region 24 with fail
              rw [← a50]
              clear a50 za i3 e0 e1 e2 e3 e4 e5 e6
              have X := Q50.out.k _ _ _ _ JX.out (by decide) (by decide)
              have i0 : w50.cell? ⟨w49.heap.size, 0, none⟩ = some (.string j.nm) := by simp [World.cell?, X]
              clear X
              go_wp2_with (go_at_call 43; refine (textR B _ _ _ _ S50.out (BQ.out _ Q50.out) (by have := L50.out; omega) JO.out.1).mono ?_)
              first | (rintro e w51 ⟨v51, he, h1, hb1⟩; have he' := he) | (rintro e w51 v51 he h1 hb1)
              have hsz : j.nm.size ≤ 4194304 := JO.out.1
              subst he
              have Q51 : Hid (Bq B w50 w51) := Q50.out.trans hb1
              obtain ⟨bz51, ez⟩ : ∃ z, z = bz50 ++ tbN j.nm := ⟨_, rfl⟩
              rw [← ez] at h1
              have S51 : Hid (Sb B bz51 v51 w51) := h1
              have E51 : Hid (bz51 = bz50 ++ tbN j.nm) := ez
              have L51 : Hid (bz51.length ≤ 4437920344108) := by show _ ≤ _; rw [ez, List.length_append, tbN_len]; have := L50.out; omega
              obtain ⟨tx51, tn51, tc51, rfl⟩ := h1.form
              clear h1 hb1 ez hsz i0
              have X := Q51.out.k _ _ _ _ JX.out (by decide) (by decide)
              have i1 : w51.cell? ⟨w49.heap.size, 1, none⟩ = some (.int .i64 j.iv) := by simp [World.cell?, X]
              clear X
              go_wp2_with (go_at_call 44; refine (numR B _ _ _ _ S51.out (BQ.out _ Q51.out) (by have := L51.out; omega)).mono ?_)
              first | (rintro e w52 ⟨v52, he, h1, hb1⟩; have he' := he) | (rintro e w52 v52 he h1 hb1)
              subst he
              have Q52 : Hid (Bq B w50 w52) := Q51.out.trans hb1
              obtain ⟨bz52, ez⟩ : ∃ z, z = bz51 ++ nbN j.iv := ⟨_, rfl⟩
              rw [← ez] at h1
              have S52 : Hid (Sb B bz52 v52 w52) := h1
              have E52 : Hid (bz52 = bz51 ++ nbN j.iv) := ez
              have L52 : Hid (bz52.length ≤ 4437920344116) := by show _ ≤ _; rw [ez, List.length_append, nbN_len]; have := L51.out; omega
              obtain ⟨tx52, tn52, tc52, rfl⟩ := h1.form
              clear h1 hb1 ez i1
              have X := Q52.out.k _ _ _ _ JX.out (by decide) (by decide)
              have i2 : w52.cell? ⟨w49.heap.size, 2, none⟩ = some (.int .i64 j.sg) := by simp [World.cell?, X]
              clear X
              go_wp2_with (go_at_call 44; refine (numR B _ _ _ _ S52.out (BQ.out _ Q52.out) (by have := L52.out; omega)).mono ?_)
              first | (rintro e w53 ⟨v53, he, h1, hb1⟩; have he' := he) | (rintro e w53 v53 he h1 hb1)
              subst he
              have Q53 : Hid (Bq B w50 w53) := Q52.out.trans hb1
              obtain ⟨bz53, ez⟩ : ∃ z, z = bz52 ++ nbN j.sg := ⟨_, rfl⟩
              rw [← ez] at h1
              have S53 : Hid (Sb B bz53 v53 w53) := h1
              have E53 : Hid (bz53 = bz52 ++ nbN j.sg) := ez
              have L53 : Hid (bz53.length ≤ 4437920344124) := by show _ ≤ _; rw [ez, List.length_append, nbN_len]; have := L52.out; omega
              obtain ⟨tx53, tn53, tc53, rfl⟩ := h1.form
              clear h1 hb1 ez i2
              have X := Q53.out.k _ _ _ _ JX.out (by decide) (by decide)
              have i3 : w53.cell? ⟨w49.heap.size, 3, none⟩ = some (.int .i64 j.pr) := by simp [World.cell?, X]
              clear X
              go_wp2_with (go_at_call 44; refine (numR B _ _ _ _ S53.out (BQ.out _ Q53.out) (by have := L53.out; omega)).mono ?_)
              first | (rintro e w54 ⟨v54, he, h1, hb1⟩; have he' := he) | (rintro e w54 v54 he h1 hb1)
              subst he
              have Q54 : Hid (Bq B w50 w54) := Q53.out.trans hb1
              obtain ⟨bz54, ez⟩ : ∃ z, z = bz53 ++ nbN j.pr := ⟨_, rfl⟩
              rw [← ez] at h1
              have S54 : Hid (Sb B bz54 v54 w54) := h1
              have E54 : Hid (bz54 = bz53 ++ nbN j.pr) := ez
              have L54 : Hid (bz54.length ≤ 4437920344132) := by show _ ≤ _; rw [ez, List.length_append, nbN_len]; have := L53.out; omega
              obtain ⟨tx54, tn54, tc54, rfl⟩ := h1.form
              clear h1 hb1 ez i3
              have X := Q54.out.k _ _ _ _ JX.out (by decide) (by decide)
              have i4 : w54.cell? ⟨w49.heap.size, 4, none⟩ = some (.slice jx j.cs.length jc) := by simp [World.cell?, X]
              clear X
              have ln := JO.out.2.2.2.2.2.2.2.1
              go_wp2_with (go_at_call 48; refine (numbersR B _ _ j.cs _ _ _ S54.out (BQ.out _ Q54.out) HS.out (JQ.out _ Q54.out).1 (by have := L54.out; omega) ln).mono ?_)
              first | (rintro e w55 ⟨v55, he, h1, hb1⟩; have he' := he) | (rintro e w55 v55 he h1 hb1)
              have lz := lsI_le j.cs
              subst he
              have Q55 : Hid (Bq B w50 w55) := Q54.out.trans hb1
              obtain ⟨bz55, ez⟩ : ∃ z, z = bz54 ++ lsN nbN j.cs := ⟨_, rfl⟩
              rw [← ez] at h1
              have S55 : Hid (Sb B bz55 v55 w55) := h1
              have E55 : Hid (bz55 = bz54 ++ lsN nbN j.cs) := ez
              have L55 : Hid (bz55.length ≤ 4437928732748) := by show _ ≤ _; rw [ez, List.length_append]; have := L54.out; omega
              obtain ⟨tx55, tn55, tc55, rfl⟩ := h1.form
              clear h1 hb1 ez lz ln i4
              have X := Q55.out.k _ _ _ _ JX.out (by decide) (by decide)
              have i5 : w55.cell? ⟨w49.heap.size, 5, none⟩ = some (.slice jy j.bs.length jd) := by simp [World.cell?, X]
              clear X
              have ln := JO.out.2.2.2.2.2.2.2.2
              go_wp2_with (go_at_call 48; refine (numbersR B _ _ j.bs _ _ _ S55.out (BQ.out _ Q55.out) HS.out (JQ.out _ Q55.out).2 (by have := L55.out; omega) ln).mono ?_)
              first | (rintro e w56 ⟨v56, he, h1, hb1⟩; have he' := he) | (rintro e w56 v56 he h1 hb1)
              have lz := lsI_le j.bs
              subst he
              have Q56 : Hid (Bq B w50 w56) := Q55.out.trans hb1
              obtain ⟨bz56, ez⟩ : ∃ z, z = bz55 ++ lsN nbN j.bs := ⟨_, rfl⟩
              rw [← ez] at h1
              have S56 : Hid (Sb B bz56 v56 w56) := h1
              have E56 : Hid (bz56 = bz55 ++ lsN nbN j.bs) := ez
              have L56 : Hid (bz56.length ≤ 4437937121364) := by show _ ≤ _; rw [ez, List.length_append]; have := L55.out; omega
              obtain ⟨tx56, tn56, tc56, rfl⟩ := h1.form
              clear h1 hb1 ez lz ln i5
              have X := Q56.out.k _ _ _ _ JX.out (by decide) (by decide)
              have i6 : w56.cell? ⟨w49.heap.size, 6, none⟩ = some (.int .i64 j.bd) := by simp [World.cell?, X]
              clear X
              go_wp2_with (go_at_call 44; refine (numR B _ _ _ _ S56.out (BQ.out _ Q56.out) (by have := L56.out; omega)).mono ?_)
              first | (rintro e w57 ⟨v57, he, h1, hb1⟩; have he' := he) | (rintro e w57 v57 he h1 hb1)
              subst he
              have Q57 : Hid (Bq B w50 w57) := Q56.out.trans hb1
              obtain ⟨bz57, ez⟩ : ∃ z, z = bz56 ++ nbN j.bd := ⟨_, rfl⟩
              rw [← ez] at h1
              have S57 : Hid (Sb B bz57 v57 w57) := h1
              have E57 : Hid (bz57 = bz56 ++ nbN j.bd) := ez
              have L57 : Hid (bz57.length ≤ 4437937121372) := by show _ ≤ _; rw [ez, List.length_append, nbN_len]; have := L56.out; omega
              obtain ⟨tx57, tn57, tc57, rfl⟩ := h1.form
              clear h1 hb1 ez i6
              have HF : Hid (Sb B (bz31 ++ (m.js.take (k + 1)).flatMap jbN) (.slice tx57 tn57 tc57) w57) := by
                have q := S57.out
                rw [E57.out, E56.out, E55.out, E54.out, E53.out, E52.out, E51.out] at q
                rw [TK.out]
                show Sb _ _ _ _
                simpa only [jbN, nsN_cons, nsN_nil, List.append_assoc, List.nil_append, List.append_nil] using q
              go_wp2
              try rw [ek]
              exact ⟨⟨k + 1, tx57, tn57, tc57, Nat.succ_le_of_lt LT.out, rfl, rfl, HF.out, QW.out.trans Q57.out⟩, msrE LT.out⟩
            · have kl : ¬ (k : Int) < m.js.length := by omega
              have ek : k = m.js.length := by omega
              subst ek
              have HF : Hid (Sb B (imbN m) (.slice tx50 tn50 tc50) w49) := by
                have q := S49.out
                rw [E50.out, List.take_length, E31.out, E40.out, E21.out, E20.out, E2.out, E1.out, E0.out] at q
                show Sb _ _ _ _
                unfold imbN lsN
                simpa only [List.append_assoc] using q
              clear hlt hk
              go_wp2
              go_ret
              exact ⟨_, rfl, HF.out, QA.out.trans Q49.out⟩
end Go.Proofs.YtdcjngakmkgbmaaGreat
