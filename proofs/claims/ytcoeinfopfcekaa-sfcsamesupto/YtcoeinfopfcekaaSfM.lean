/- Like charts are told the same in all fields; no statement of the seat is proved here. -/
import Derived.Test.YtcoeinfopfcekaaSfI
import Derived.Test.YtcoeinfopfcekaaSfK
import Derived.Test.YtcoeinfopfcekaaSfL
namespace Go.Proofs.Ytcoeinfopfcekaa
set_option linter.unusedVariables false
set_option linter.unusedSimpArgs false
open Go.RowKit
theorem yieldsIf_load_at {P : Program} {ops : Array Oper} {S : World → Prop} {op : Oper} {a : Act} (hw : Region.wanted op (yielded ops a.tmps) = true) (ty : TypeId) (x : Operand) (ho : op.op = .load ty x)
    (p : Addr) (hx : a.eval x = .pointer (some p)) (cs : List Value) (d : TypeDesc) (hS : ∀ w, S w → CsAt w p cs)
    (hu : P.underlying ty = some d) (hd : (match d with | .struct _ | .array _ _ => true | _ => false) = true) (hi : (P.info? ty).map (·.size) = some cs.length) : YieldsIf P ops S op (.agg cs.toArray) a :=
  .inl ⟨hw, fun w hw' => by
    unfold execOp
    simp only [ho, hx, Instr.loadAt, Instr.sureAddr, Sem.run_bind, Sem.run_pure, Result.andThen_ok, run_loadVar_at w p ty cs d (hS w hw') hu hd hi]⟩
theorem sp_info : (Try.prog.info? 31).map (·.size) = some 4 := by kernel_rfl
theorem ac_info : (Try.prog.info? 49).map (·.size) = some 3 := by kernel_rfl
theorem SpP.one {S : Nat → Prop} {w : World} {t : SpR} {vs : List Value} (h : SpP S w t vs) : vs.length = 4 ∧ vs.toArray.all (·.oneCell') = true := by
  obtain ⟨x, c, rfl, _⟩ := h
  exact ⟨rfl, by simp [spC, Value.oneCell']⟩
theorem AcP.one {d : Nat} {S : Nat → Prop} {w : World} {t : AcR} {vs : List Value} (h : AcP d S w t vs) : vs.length = 3 ∧ vs.toArray.all (·.oneCell') = true := by
  obtain ⟨x, c, rfl, _⟩ := h
  exact ⟨rfl, by simp [acC, Value.oneCell']⟩
theorem two_atC (w2 : World) (X Y : Obj) : ((w2.alloc X).alloc Y).heap[w2.heap.size]? = some X ∧ ((w2.alloc X).alloc Y).heap[w2.heap.size + 1]? = some Y := by
  have q := heap_alloc_last (w2.alloc X) Y
  rw [show (w2.alloc X).heap.size = w2.heap.size + 1 by simp] at q
  exact ⟨(Below.heap_alloc _ _ _ (by simp)).trans (heap_alloc_last _ _), q⟩
/-- Two rows laid in two new blocks. -/
theorem two_laid {B : Nat} {w0 W : World} (hb : Below B w0 W) (hB : B ≤ W.heap.size) (Z v1 v2 : Array Value) (T : TypeId) (h1 : Z.size = v1.size) (h2 : Z.size = v2.size) (p q : Nat) (hpq : p ≠ q) (hp : p = W.heap.size ∨ p = W.heap.size + 1) (hq : q = W.heap.size ∨ q = W.heap.size + 1) :
    ((W.alloc (.cells Z T)).alloc (.cells Z T)).heap[p]? = some (.cells Z T (0, 0)) ∧ (((W.alloc (.cells Z T)).alloc (.cells Z T)).setRow p v1).heap[q]? = some (.cells Z T (0, 0)) ∧ Below B w0 (((W.alloc (.cells Z T)).alloc (.cells Z T)).setRow p v1) ∧
      ((((W.alloc (.cells Z T)).alloc (.cells Z T)).setRow p v1).setRow q v2).heap[p]? = some (.cells v1 T (0, 0)) ∧ ((((W.alloc (.cells Z T)).alloc (.cells Z T)).setRow p v1).setRow q v2).heap[q]? = some (.cells v2 T (0, 0)) ∧ Below B w0 ((((W.alloc (.cells Z T)).alloc (.cells Z T)).setRow p v1).setRow q v2) := by
  have hz := two_atC W (.cells Z T (0, 0)) (.cells Z T (0, 0))
  have e : ∀ r, (r = W.heap.size ∨ r = W.heap.size + 1) → ((W.alloc (.cells Z T)).alloc (.cells Z T)).heap[r]? = some (.cells Z T (0, 0)) := fun r hr => by
    rcases hr with rfl | rfl
    · exact hz.1
    · exact hz.2
  have eq : (((W.alloc (.cells Z T)).alloc (.cells Z T)).setRow p v1).heap[q]? = some (.cells Z T (0, 0)) := (setRow_other _ _ _ _ (Ne.symm hpq)).trans (e q hq)
  have b2 : Below B w0 ((W.alloc (.cells Z T)).alloc (.cells Z T)) := (hb.alloc hB _).alloc (by simp; omega) _
  have b3 : Below B w0 (((W.alloc (.cells Z T)).alloc (.cells Z T)).setRow p v1) := b2.trans ⟨rfl, rfl, rfl, by simp, fun k hk => setRow_other _ _ _ _ (by omega)⟩
  refine ⟨e p hp, eq, b3, (setRow_other _ _ _ _ hpq).trans (setRow_heap _ _ Z _ T (0, 0) (e p hp)), setRow_heap _ _ Z _ T (0, 0) eq, b3.trans ⟨rfl, rfl, rfl, by simp, fun k hk => setRow_other _ _ _ _ (by omega)⟩⟩
set_option maxRecDepth 1000000 in
set_option maxHeartbeats 16000000 in
theorem plainCh (d : Nat) (m : ChR) (x1 x2 x3 y1 y2 y3 : Option Addr) (c1 c2 c3 e1 e2 e3 : Nat) (w : World) (ha : ChQ (fun b => b < w.heap.size) d w m x1 x2 x3) (hb : ChQ (fun b => b < w.heap.size) d w m y1 y2 y3) :
    Calls Try.prog 7 #[.agg #[.slice x1 m.ss.length c1, .slice x2 m.ts.length c2, .slice x3 m.ac.length c3], .agg #[.slice y1 m.ss.length e1, .slice y2 m.ts.length e2, .slice y3 m.ac.length e3]] w fun e w' => e = .returned (.bool true) ∧ Below w.heap.size w w' := by
  have GR : Hid (∀ X Y : Obj, Below w.heap.size w ((w.alloc X).alloc Y)) := two_b w
  have l1' : ((m.ss.length : Int) != (m.ss.length : Int)) = false := by simp
  have l2' : ((m.ts.length : Int) != (m.ts.length : Int)) = false := by simp
  have l3' : ((m.ac.length : Int) != (m.ac.length : Int)) = false := by simp
  have HA : Hid (ChQ (fun b => b < w.heap.size) d w m x1 x2 x3) := ha
  have HB : Hid (ChQ (fun b => b < w.heap.size) d w m y1 y2 y3) := hb
  clear ha hb
  have FW : Hid (few m.ss.length ∧ few m.ts.length ∧ few m.ac.length) := ⟨HA.out.1.1, HA.out.2.1.1, HA.out.2.2.1⟩
  obtain ⟨W, eW⟩ : ∃ W, W = (w.alloc (.cells #[.slice x1 m.ss.length c1, .slice x2 m.ts.length c2, .slice x3 m.ac.length c3] 26 (0, 0))).alloc (.cells #[.slice y1 m.ss.length e1, .slice y2 m.ts.length e2, .slice y3 m.ac.length e3] 26 (0, 0)) := ⟨_, rfl⟩
  obtain ⟨gx, egx⟩ : ∃ n, n = w.heap.size := ⟨_, rfl⟩
  have WB : Hid (Below w.heap.size w W) := by rw [eW]; exact GR.out _ _
  have ZZ : Hid (gx < W.heap.size ∧ gx + 1 < W.heap.size) := by rw [eW, egx]; show _ ∧ _; simp <;> omega
  have CA : Hid (∀ V, Below W.heap.size W V → V.cell? ⟨gx, 0, none⟩ = some (.slice x1 m.ss.length c1) ∧ V.cell? ⟨gx, 1, none⟩ = some (.slice x2 m.ts.length c2) ∧ V.cell? ⟨gx, 2, none⟩ = some (.slice x3 m.ac.length c3) ∧ V.cell? ⟨gx + 1, 0, none⟩ = some (.slice y1 m.ss.length e1) ∧ V.cell? ⟨gx + 1, 1, none⟩ = some (.slice y2 m.ts.length e2) ∧ V.cell? ⟨gx + 1, 2, none⟩ = some (.slice y3 m.ac.length e3)) := fun V hV => by
    have z := ZZ.out
    refine ⟨(hV.cell (p := ⟨gx, 0, none⟩) z.1).trans ?_, (hV.cell (p := ⟨gx, 1, none⟩) z.1).trans ?_, (hV.cell (p := ⟨gx, 2, none⟩) z.1).trans ?_, (hV.cell (p := ⟨gx + 1, 0, none⟩) z.2).trans ?_, (hV.cell (p := ⟨gx + 1, 1, none⟩) z.2).trans ?_, (hV.cell (p := ⟨gx + 1, 2, none⟩) z.2).trans ?_⟩ <;> (rw [eW, egx]; simp)
  have BW : Hid (∀ V, Below W.heap.size W V → Below w.heap.size w V) := fun V h => WB.out.trans (h.mono WB.out.size)
  have UP : Hid (∀ (W' : World), Below w.heap.size w W' → ∀ b, b < w.heap.size → b < W'.heap.size) := fun W' h b q => Nat.lt_of_lt_of_le q h.size
  obtain ⟨a0, a1, a2, a3, a4, a5⟩ := CA.out W (Below.refl _ _)
  go_enter Try.func7, Try.ntmps7
  go_upto_region 1 with fail
  rw [← eW]
  try rw [← egx]
  clear eW egx GR
  go_upto_region 3 with fail
  go_upto_region 4 with fail
  clear a0 a1 a2 a3 a4 a5 l1' l2' l3'
  go_loopw [42] (fun i wr => ∃ k : Nat, k ≤ m.ss.length ∧ i = .int .i64 k ∧ Below W.heap.size W wr) (fun i _ => m.ss.length - (intOf i).toNat)
  case atStart => exact ⟨0, Nat.zero_le _, rfl, Below.refl _ _⟩
  case round =>
    obtain ⟨k, hk, rfl, hbw⟩ := hrel
    have HW : Hid (Below W.heap.size W wr) := hbw
    have B3 : Hid (∀ V, Below wr.heap.size wr V → Below W.heap.size W V) := fun V h => HW.out.trans (h.mono HW.out.size)
    by_cases hlt : k < m.ss.length
    · obtain ⟨a, rfl⟩ := HA.out.1.some (by omega)
      obtain ⟨b, rfl⟩ := HB.out.1.some (by omega)
      have hb2 : Below w.heap.size w wr := BW.out wr hbw
      obtain ⟨t1, vs1, ee1, hp1, v1, sk1⟩ := (rw_frK keptSp (w' := wr) HA.out.1 (old_fr hb2)).el k hlt
      obtain ⟨t2, vs2, ee2, hp2, v2, sk2⟩ := (rw_frK keptSp (w' := wr) HB.out.1 (old_fr hb2)).el k hlt
      have ee := Option.some.inj (ee1.symm.trans ee2)
      subst ee
      have E1 : Hid (m.ss[k]? = some t1) := ee1
      have LT : Hid (k < m.ss.length) := hlt
      have kl : (k : Int) < m.ss.length := by omega
      have V1 : Hid (SpP (fun b => b < w.heap.size) wr t1 vs1) := v1
      have V2 : Hid (SpP (fun b => b < w.heap.size) wr t1 vs2) := v2
      have K1 : Hid (∀ W, Below wr.heap.size wr W → CsAt W (a.add (k * 4)) vs1) := fun W hW j u hu => (hW.cell (block_lt_of_cell (sk1 j u hu))).trans (sk1 j u hu)
      have K2 : Hid (∀ W, Below wr.heap.size wr W → CsAt W (b.add (k * 4)) vs2) := fun W hW j u hu => (hW.cell (block_lt_of_cell (sk2 j u hu))).trans (sk2 j u hu)
      have O1 : Hid (vs1.length = 4 ∧ vs1.toArray.all (·.oneCell') = true) := SpP.one v1
      have O2 : Hid (vs2.length = 4 ∧ vs2.toArray.all (·.oneCell') = true) := SpP.one v2
      clear hbw hlt ee1 ee2 hp1 hp2 sk1 sk2 v1 v2 hb2
      obtain ⟨a0, a1, a2, a3, a4, a5⟩ := CA.out wr HW.out
      go_upto_region 6 with fail
      clear a0 a1 a2 a3 a4 a5
      go_cut [6, 7] (fun s6 s7 wx => ∃ hx hy, s6 = .pointer (some ⟨hx, 0, none⟩) ∧ s7 = .pointer (some ⟨hy, 0, none⟩) ∧ wx.heap[hx]? = some (.cells vs1.toArray 31 (0, 0)) ∧ wx.heap[hy]? = some (.cells vs2.toArray 31 (0, 0)) ∧ Below wr.heap.size wr wx)
      case first =>
        have ZZ1 : Hid ((#[.int .i64 0, .string ⟨#[]⟩, .bool false, .slice none 0 0] : Array Value).size = vs1.toArray.size ∧ (#[.int .i64 0, .string ⟨#[]⟩, .bool false, .slice none 0 0] : Array Value).size = vs2.toArray.size) := ⟨by simp [O1.out.1], by simp [O2.out.1]⟩
        have i1 : (Try.prog.info? 31).map (·.size) = some vs1.toArray.size := by rw [List.size_toArray, O1.out.1]; exact sp_info
        have i2 : (Try.prog.info? 31).map (·.size) = some vs2.toArray.size := by rw [List.size_toArray, O2.out.1]; exact sp_info
        have I12 : Hid ((Try.prog.info? 31).map (·.size) = some vs1.toArray.size ∧ (Try.prog.info? 31).map (·.size) = some vs2.toArray.size) := ⟨i1, i2⟩
        clear i1 i2
        refine wp_region_held_drew (S := fun V => Below wr.heap.size wr V) (by kernel_rfl) ((Below.refl _ _).drew) (fun hHeld => ?_)
        obtain ⟨W0, e0⟩ : ∃ V, V = wr.drew := ⟨_, rfl⟩
        have U0 : Hid (Below wr.heap.size wr W0) := by rw [e0]; exact (Below.refl _ _).drew
        rw [← e0] at hHeld ⊢
        clear e0
        refine wpAnyH_takeD (i := 0) (d := 45) (v := .pointer (some ⟨gx, 0, none⟩)) rfl (by kernel_rfl) (by kernel_rfl) (by kernel_rfl) (by kernel_rfl) (fun _ _ _ h => h) (Or.inl ⟨by rfl, fun V hV => ?_⟩) hHeld ?_
        · go_simp
        simp only [Act.put, List.setIfInBounds_toArray, List.set_cons_succ, List.set_cons_zero]
        refine wpAnyH_takeD (i := 1) (d := 46) (v := .slice (some a) m.ss.length c1) rfl (by kernel_rfl) (by kernel_rfl) (by kernel_rfl) (by kernel_rfl) (fun _ _ _ h => h) (Or.inl ⟨by rfl, fun V hV => ?_⟩) hHeld ?_
        · have q := (CA.out V (B3.out _ hV)).1
          go_simp
        simp only [Act.put, List.setIfInBounds_toArray, List.set_cons_succ, List.set_cons_zero]
        refine wpAnyH_takeD (i := 2) (d := 47) (v := .int .i64 k) rfl (by kernel_rfl) (by kernel_rfl) (by kernel_rfl) (by kernel_rfl) (fun _ _ _ h => h) (Or.inl ⟨by rfl, fun V hV => ?_⟩) hHeld ?_
        · go_simp
        simp only [Act.put, List.setIfInBounds_toArray, List.set_cons_succ, List.set_cons_zero]
        refine wpAnyH_takeD (i := 3) (d := 48) (v := .pointer (some (a.add (k * 4)))) rfl (by kernel_rfl) (by kernel_rfl) (by kernel_rfl) (by kernel_rfl) (fun _ _ _ h => h) (Or.inl ⟨by rfl, fun V hV => ?_⟩) hHeld ?_
        · go_simp
        simp only [Act.put, List.setIfInBounds_toArray, List.set_cons_succ, List.set_cons_zero]
        refine wpAnyH_takeD (i := 4) (d := 49) (v := .agg vs1.toArray) rfl (by kernel_rfl) (by kernel_rfl) (by kernel_rfl) (by kernel_rfl) (fun _ _ _ h => h) (yieldsIf_load_at (by rfl) 31 (.tmp 48) rfl (a.add (k * 4)) rfl vs1 _ (fun V hV => K1.out V hV) Try.underlying31 rfl (by rw [O1.out.1]; exact sp_info)) hHeld ?_
        simp only [Act.put, List.setIfInBounds_toArray, List.set_cons_succ, List.set_cons_zero]
        refine wpAnyH_takeD (i := 5) (d := 50) (v := .pointer (some ⟨gx + 1, 0, none⟩)) rfl (by kernel_rfl) (by kernel_rfl) (by kernel_rfl) (by kernel_rfl) (fun _ _ _ h => h) (Or.inl ⟨by rfl, fun V hV => ?_⟩) hHeld ?_
        · go_simp
        simp only [Act.put, List.setIfInBounds_toArray, List.set_cons_succ, List.set_cons_zero]
        refine wpAnyH_takeD (i := 6) (d := 51) (v := .slice (some b) m.ss.length e1) rfl (by kernel_rfl) (by kernel_rfl) (by kernel_rfl) (by kernel_rfl) (fun _ _ _ h => h) (Or.inl ⟨by rfl, fun V hV => ?_⟩) hHeld ?_
        · have q := (CA.out V (B3.out _ hV)).2.2.2.1
          go_simp
        simp only [Act.put, List.setIfInBounds_toArray, List.set_cons_succ, List.set_cons_zero]
        refine wpAnyH_takeD (i := 7) (d := 52) (v := .int .i64 k) rfl (by kernel_rfl) (by kernel_rfl) (by kernel_rfl) (by kernel_rfl) (fun _ _ _ h => h) (Or.inl ⟨by rfl, fun V hV => ?_⟩) hHeld ?_
        · go_simp
        simp only [Act.put, List.setIfInBounds_toArray, List.set_cons_succ, List.set_cons_zero]
        refine wpAnyH_takeD (i := 8) (d := 53) (v := .pointer (some (b.add (k * 4)))) rfl (by kernel_rfl) (by kernel_rfl) (by kernel_rfl) (by kernel_rfl) (fun _ _ _ h => h) (Or.inl ⟨by rfl, fun V hV => ?_⟩) hHeld ?_
        · go_simp
        simp only [Act.put, List.setIfInBounds_toArray, List.set_cons_succ, List.set_cons_zero]
        refine wpAnyH_takeD (i := 9) (d := 54) (v := .agg vs2.toArray) rfl (by kernel_rfl) (by kernel_rfl) (by kernel_rfl) (by kernel_rfl) (fun _ _ _ h => h) (yieldsIf_load_at (by rfl) 31 (.tmp 53) rfl (b.add (k * 4)) rfl vs2 _ (fun V hV => K2.out V hV) Try.underlying31 rfl (by rw [O2.out.1]; exact sp_info)) hHeld ?_
        simp only [Act.put, List.setIfInBounds_toArray, List.set_cons_succ, List.set_cons_zero]
        refine wpAnyH_ready (rs := [10, 11]) (by kernel_rfl) (by simp) ?_
        refine AllReadyH.cons (o := _) rfl (fun K hK => ?_) (AllReadyH.cons (o := _) rfl (fun K hK => ?_) AllReadyH.nil)
        · go_simp
          have L := two_laid U0.out U0.out.size #[.int .i64 0, .string ⟨#[]⟩, .bool false, .slice none 0 0] vs1.toArray vs2.toArray 31 ZZ1.out.1 ZZ1.out.2 W0.heap.size (W0.heap.size + 1) (by omega) (by first | exact Or.inl rfl | exact Or.inr rfl) (by first | exact Or.inl rfl | exact Or.inr rfl)
          have LL : Hid _ := L
          clear L
          refine hK.out _ _ (U0.out.alloc U0.out.size _) (fun hHeld => ?_)
          clear hK K
          refine wpAnyH_ready (rs := [11]) (by kernel_rfl) (by simp) ?_
          refine AllReadyH.cons (o := _) rfl (fun K hK => ?_) AllReadyH.nil
          go_simp
          refine hK.out _ _ ((U0.out.alloc U0.out.size _).alloc (by have := U0.out.size; simp; omega) _) (fun hHeld => ?_)
          clear hK K
          refine wpAnyH_ready (rs := [12]) (by kernel_rfl) (by simp) ?_
          refine AllReadyH.cons (o := _) rfl (fun K hK => ?_) AllReadyH.nil
          rw [if_pos (by rfl)]
          refine wp_store_row 31 _ _ rfl (W0.heap.size) _ rfl rfl 31 _ LL.out.1 I12.out.1 ZZ1.out.1 O1.out.2 ?_
          refine hK.out _ _ LL.out.2.2.1 (fun hHeld => ?_)
          clear hK K
          rw [put_none (by rfl)]
          refine wpAnyH_ready (rs := [13]) (by kernel_rfl) (by simp) ?_
          refine AllReadyH.cons (o := _) rfl (fun K hK => ?_) AllReadyH.nil
          rw [if_pos (by rfl)]
          refine wp_store_row 31 _ _ rfl ((W0.heap.size + 1)) _ rfl rfl 31 _ LL.out.2.1 I12.out.2 ZZ1.out.2 O2.out.2 ?_
          refine hK.out _ _ LL.out.2.2.2.2.2 (fun hHeld => ?_)
          clear hK K
          refine wpAnyH_done (by kernel_rfl) ?_ _
          rw [put_none (by rfl)]
          refine Met.intro ?_
          go_step
          go_meet
          case rel => exact ⟨W0.heap.size, (W0.heap.size + 1), rfl, rfl, LL.out.2.2.2.1, LL.out.2.2.2.2.1, LL.out.2.2.2.2.2⟩
        · go_simp
          have L := two_laid U0.out U0.out.size #[.int .i64 0, .string ⟨#[]⟩, .bool false, .slice none 0 0] vs1.toArray vs2.toArray 31 ZZ1.out.1 ZZ1.out.2 (W0.heap.size + 1) W0.heap.size (by omega) (by first | exact Or.inl rfl | exact Or.inr rfl) (by first | exact Or.inl rfl | exact Or.inr rfl)
          have LL : Hid _ := L
          clear L
          refine hK.out _ _ (U0.out.alloc U0.out.size _) (fun hHeld => ?_)
          clear hK K
          refine wpAnyH_ready (rs := [10]) (by kernel_rfl) (by simp) ?_
          refine AllReadyH.cons (o := _) rfl (fun K hK => ?_) AllReadyH.nil
          go_simp
          refine hK.out _ _ ((U0.out.alloc U0.out.size _).alloc (by have := U0.out.size; simp; omega) _) (fun hHeld => ?_)
          clear hK K
          refine wpAnyH_ready (rs := [12]) (by kernel_rfl) (by simp) ?_
          refine AllReadyH.cons (o := _) rfl (fun K hK => ?_) AllReadyH.nil
          rw [if_pos (by rfl)]
          refine wp_store_row 31 _ _ rfl ((W0.heap.size + 1)) _ rfl rfl 31 _ LL.out.1 I12.out.1 ZZ1.out.1 O1.out.2 ?_
          refine hK.out _ _ LL.out.2.2.1 (fun hHeld => ?_)
          clear hK K
          rw [put_none (by rfl)]
          refine wpAnyH_ready (rs := [13]) (by kernel_rfl) (by simp) ?_
          refine AllReadyH.cons (o := _) rfl (fun K hK => ?_) AllReadyH.nil
          rw [if_pos (by rfl)]
          refine wp_store_row 31 _ _ rfl (W0.heap.size) _ rfl rfl 31 _ LL.out.2.1 I12.out.2 ZZ1.out.2 O2.out.2 ?_
          refine hK.out _ _ LL.out.2.2.2.2.2 (fun hHeld => ?_)
          clear hK K
          refine wpAnyH_done (by kernel_rfl) ?_ _
          rw [put_none (by rfl)]
          refine Met.intro ?_
          go_step
          go_meet
          case rel => exact ⟨(W0.heap.size + 1), W0.heap.size, rfl, rfl, LL.out.2.2.2.1, LL.out.2.2.2.2.1, LL.out.2.2.2.2.2⟩
      case rest =>
        obtain ⟨hx, hy, rfl, rfl, ox, oy, hb⟩ := hcut
        obtain ⟨u1, u1c, rfl, hq⟩ := V1.out
        obtain ⟨v1, v1c, rfl, hq'⟩ := V2.out
        have OX : Hid (wc.heap[hx]? = some (.cells #[.int .i64 t1.pl, .string t1.nm, .bool t1.ini, .slice u1 t1.ls.length u1c] 31 (0, 0))) := ox
        have OY : Hid (wc.heap[hy]? = some (.cells #[.int .i64 t1.pl, .string t1.nm, .bool t1.ini, .slice v1 t1.ls.length v1c] 31 (0, 0))) := oy
        have G2 : Hid (Below wr.heap.size wr wc) := hb
        have zx : hx < wc.heap.size := blk_in2' ox
        have zy : hy < wc.heap.size := blk_in2' oy
        clear ox oy hb
        have nst : (t1.nm.toList != t1.nm.toList) = false := nms_self _
        have FX : Hid (∀ V, Below wc.heap.size wc V → V.heap[hx]? = some (.cells #[.int .i64 t1.pl, .string t1.nm, .bool t1.ini, .slice u1 t1.ls.length u1c] 31 (0, 0)) ∧ V.heap[hy]? = some (.cells #[.int .i64 t1.pl, .string t1.nm, .bool t1.ini, .slice v1 t1.ls.length v1c] 31 (0, 0))) := fun V hV => ⟨(hV.block _ zx).trans OX.out, (hV.block _ zy).trans OY.out⟩
        have D0 : Hid (Below wc.heap.size wc wc) := Below.refl _ _
        have CALL1 : Hid (∀ V, Below wc.heap.size wc V → Calls Try.prog 22 #[.slice u1 t1.ls.length u1c, .slice v1 t1.ls.length v1c] V fun e w' => e = .returned (.bool true) ∧ Below V.heap.size V w') := fun V hV => by
          have z : Below wr.heap.size wr V := G2.out.trans (hV.mono G2.out.size)
          have q := EqualI u1 v1 t1.ls t1.ls u1c v1c V (S := fun b => b < V.heap.size) (fun b q => q) ((hq.fr (fun q hq => z.cell (UP.out _ (BW.out wr HW.out) _ hq))).sub (UP.out _ (BW.out _ (B3.out _ z)))) ((hq'.fr (fun q hq => z.cell (UP.out _ (BW.out wr HW.out) _ hq))).sub (UP.out _ (BW.out _ (B3.out _ z))))
          simpa using q
        have p0 : wc.cell? ⟨hx, 0, none⟩ = some (.int .i64 t1.pl) := (by simp [World.cell?, (FX.out wc (Below.refl _ _)).1])
        have p1 : wc.cell? ⟨hx, 1, none⟩ = some (.string t1.nm) := (by simp [World.cell?, (FX.out wc (Below.refl _ _)).1])
        have p2 : wc.cell? ⟨hx, 2, none⟩ = some (.bool t1.ini) := (by simp [World.cell?, (FX.out wc (Below.refl _ _)).1])
        have p3 : wc.cell? ⟨hx, 3, none⟩ = some (.slice u1 t1.ls.length u1c) := (by simp [World.cell?, (FX.out wc (Below.refl _ _)).1])
        have q0 : wc.cell? ⟨hy, 0, none⟩ = some (.int .i64 t1.pl) := (by simp [World.cell?, (FX.out wc (Below.refl _ _)).2])
        have q1 : wc.cell? ⟨hy, 1, none⟩ = some (.string t1.nm) := (by simp [World.cell?, (FX.out wc (Below.refl _ _)).2])
        have q2 : wc.cell? ⟨hy, 2, none⟩ = some (.bool t1.ini) := (by simp [World.cell?, (FX.out wc (Below.refl _ _)).2])
        have q3 : wc.cell? ⟨hy, 3, none⟩ = some (.slice v1 t1.ls.length v1c) := (by simp [World.cell?, (FX.out wc (Below.refl _ _)).2])
        clear hq hq' V1 V2 O1 O2 K1 K2 OX OY zx zy
        have ew : wrap64 ((k : Int) + 1) = (k : Int) + 1 := by have := FW.out.1; have := LT.out; unfold wrap64; omega
        go_wp2_with (first | (go_at_call 22; refine (CALL1.out _ D0.out).mono ?_; rintro e v1w ⟨rfl, hb⟩; have D1 : Hid (Below wc.heap.size wc v1w) := D0.out.trans (hb.mono D0.out.size); clear hb))
        try rw [ew]
        exact ⟨⟨k + 1, Nat.succ_le_of_lt LT.out, rfl, B3.out _ (G2.out.trans (D1.out.mono G2.out.size))⟩, msr LT.out⟩
    · have kl : ¬ (k : Int) < m.ss.length := by omega
      obtain ⟨a0, a1, a2, a3, a4, a5⟩ := CA.out wr HW.out
      clear hbw hlt hk
      go_upto_region 11 with fail
      clear a0 a1 a2 a3 a4 a5
      have HX : Hid (Below W.heap.size W wr) := HW.out
      clear HW B3
      go_loopw [86] (fun i wr => ∃ k : Nat, k ≤ m.ts.length ∧ i = .int .i64 k ∧ Below W.heap.size W wr) (fun i _ => m.ts.length - (intOf i).toNat)
      case atStart => exact ⟨0, Nat.zero_le _, rfl, HX.out⟩
      case round =>
        clear HX
        try clear wr
        obtain ⟨k, hk, rfl, hbw⟩ := hrel
        rename World => wr
        have HW : Hid (Below W.heap.size W wr) := hbw
        have B3 : Hid (∀ V, Below wr.heap.size wr V → Below W.heap.size W V) := fun V h => HW.out.trans (h.mono HW.out.size)
        by_cases hlt : k < m.ts.length
        · obtain ⟨a, rfl⟩ := HA.out.2.1.some (by omega)
          obtain ⟨b, rfl⟩ := HB.out.2.1.some (by omega)
          have hb2 : Below w.heap.size w wr := BW.out wr hbw
          obtain ⟨t1, vs1, ee1, hp1, v1, sk1⟩ := (rw_frK (keptTn d) (w' := wr) HA.out.2.1 (old_fr hb2)).el k hlt
          obtain ⟨t2, vs2, ee2, hp2, v2, sk2⟩ := (rw_frK (keptTn d) (w' := wr) HB.out.2.1 (old_fr hb2)).el k hlt
          have ee := Option.some.inj (ee1.symm.trans ee2)
          subst ee
          have E1 : Hid (m.ts[k]? = some t1) := ee1
          have LT : Hid (k < m.ts.length) := hlt
          have kl : (k : Int) < m.ts.length := by omega
          have V1 : Hid (TnP d (fun b => b < w.heap.size) wr t1 vs1) := v1
          have V2 : Hid (TnP d (fun b => b < w.heap.size) wr t1 vs2) := v2
          have K1 : Hid (∀ W, Below wr.heap.size wr W → CsAt W (a.add (k * 18)) vs1) := fun W hW j u hu => (hW.cell (block_lt_of_cell (sk1 j u hu))).trans (sk1 j u hu)
          have K2 : Hid (∀ W, Below wr.heap.size wr W → CsAt W (b.add (k * 18)) vs2) := fun W hW j u hu => (hW.cell (block_lt_of_cell (sk2 j u hu))).trans (sk2 j u hu)
          have O1 : Hid (vs1.length = 18 ∧ vs1.toArray.all (·.oneCell') = true) := TnP.one v1
          have O2 : Hid (vs2.length = 18 ∧ vs2.toArray.all (·.oneCell') = true) := TnP.one v2
          clear hbw hlt ee1 ee2 hp1 hp2 sk1 sk2 v1 v2 hb2
          obtain ⟨a0, a1, a2, a3, a4, a5⟩ := CA.out wr HW.out
          go_upto_region 13 with fail
          clear a0 a1 a2 a3 a4 a5
          go_cut [9, 10] (fun s6 s7 wx => ∃ hx hy, s6 = .pointer (some ⟨hx, 0, none⟩) ∧ s7 = .pointer (some ⟨hy, 0, none⟩) ∧ wx.heap[hx]? = some (.cells vs1.toArray 44 (0, 0)) ∧ wx.heap[hy]? = some (.cells vs2.toArray 44 (0, 0)) ∧ Below wr.heap.size wr wx)
          case first =>
            have ZZ1 : Hid ((#[.int .i64 0, .string ⟨#[]⟩, .slice none 0 0, .slice none 0 0, .int .i64 0, .int .i64 0, .string ⟨#[]⟩, .string ⟨#[]⟩, .int .u8 0, .int .u64 0, .string ⟨#[]⟩, .slice none 0 0, .slice none 0 0, .int .u8 0, .int .i64 0, .int .i64 0, .int .i64 0, .int .i64 0] : Array Value).size = vs1.toArray.size ∧ (#[.int .i64 0, .string ⟨#[]⟩, .slice none 0 0, .slice none 0 0, .int .i64 0, .int .i64 0, .string ⟨#[]⟩, .string ⟨#[]⟩, .int .u8 0, .int .u64 0, .string ⟨#[]⟩, .slice none 0 0, .slice none 0 0, .int .u8 0, .int .i64 0, .int .i64 0, .int .i64 0, .int .i64 0] : Array Value).size = vs2.toArray.size) := ⟨by simp [O1.out.1], by simp [O2.out.1]⟩
            have i1 : (Try.prog.info? 44).map (·.size) = some vs1.toArray.size := by rw [List.size_toArray, O1.out.1]; exact tn_info
            have i2 : (Try.prog.info? 44).map (·.size) = some vs2.toArray.size := by rw [List.size_toArray, O2.out.1]; exact tn_info
            have I12 : Hid ((Try.prog.info? 44).map (·.size) = some vs1.toArray.size ∧ (Try.prog.info? 44).map (·.size) = some vs2.toArray.size) := ⟨i1, i2⟩
            clear i1 i2
            refine wp_region_held_drew (S := fun V => Below wr.heap.size wr V) (by kernel_rfl) ((Below.refl _ _).drew) (fun hHeld => ?_)
            obtain ⟨W0, e0⟩ : ∃ V, V = wr.drew := ⟨_, rfl⟩
            have U0 : Hid (Below wr.heap.size wr W0) := by rw [e0]; exact (Below.refl _ _).drew
            rw [← e0] at hHeld ⊢
            clear e0
            refine wpAnyH_takeD (i := 0) (d := 89) (v := .pointer (some ⟨gx, 1, none⟩)) rfl (by kernel_rfl) (by kernel_rfl) (by kernel_rfl) (by kernel_rfl) (fun _ _ _ h => h) (Or.inl ⟨by rfl, fun V hV => ?_⟩) hHeld ?_
            · go_simp
            simp only [Act.put, List.setIfInBounds_toArray, List.set_cons_succ, List.set_cons_zero]
            refine wpAnyH_takeD (i := 1) (d := 90) (v := .slice (some a) m.ts.length c2) rfl (by kernel_rfl) (by kernel_rfl) (by kernel_rfl) (by kernel_rfl) (fun _ _ _ h => h) (Or.inl ⟨by rfl, fun V hV => ?_⟩) hHeld ?_
            · have q := (CA.out V (B3.out _ hV)).2.1
              go_simp
            simp only [Act.put, List.setIfInBounds_toArray, List.set_cons_succ, List.set_cons_zero]
            refine wpAnyH_takeD (i := 2) (d := 91) (v := .int .i64 k) rfl (by kernel_rfl) (by kernel_rfl) (by kernel_rfl) (by kernel_rfl) (fun _ _ _ h => h) (Or.inl ⟨by rfl, fun V hV => ?_⟩) hHeld ?_
            · go_simp
            simp only [Act.put, List.setIfInBounds_toArray, List.set_cons_succ, List.set_cons_zero]
            refine wpAnyH_takeD (i := 3) (d := 92) (v := .pointer (some (a.add (k * 18)))) rfl (by kernel_rfl) (by kernel_rfl) (by kernel_rfl) (by kernel_rfl) (fun _ _ _ h => h) (Or.inl ⟨by rfl, fun V hV => ?_⟩) hHeld ?_
            · go_simp
            simp only [Act.put, List.setIfInBounds_toArray, List.set_cons_succ, List.set_cons_zero]
            refine wpAnyH_takeD (i := 4) (d := 93) (v := .agg vs1.toArray) rfl (by kernel_rfl) (by kernel_rfl) (by kernel_rfl) (by kernel_rfl) (fun _ _ _ h => h) (yieldsIf_load_at (by rfl) 44 (.tmp 92) rfl (a.add (k * 18)) rfl vs1 _ (fun V hV => K1.out V hV) Try.underlying44 rfl (by rw [O1.out.1]; exact tn_info)) hHeld ?_
            simp only [Act.put, List.setIfInBounds_toArray, List.set_cons_succ, List.set_cons_zero]
            refine wpAnyH_takeD (i := 5) (d := 94) (v := .pointer (some ⟨gx + 1, 1, none⟩)) rfl (by kernel_rfl) (by kernel_rfl) (by kernel_rfl) (by kernel_rfl) (fun _ _ _ h => h) (Or.inl ⟨by rfl, fun V hV => ?_⟩) hHeld ?_
            · go_simp
            simp only [Act.put, List.setIfInBounds_toArray, List.set_cons_succ, List.set_cons_zero]
            refine wpAnyH_takeD (i := 6) (d := 95) (v := .slice (some b) m.ts.length e2) rfl (by kernel_rfl) (by kernel_rfl) (by kernel_rfl) (by kernel_rfl) (fun _ _ _ h => h) (Or.inl ⟨by rfl, fun V hV => ?_⟩) hHeld ?_
            · have q := (CA.out V (B3.out _ hV)).2.2.2.2.1
              go_simp
            simp only [Act.put, List.setIfInBounds_toArray, List.set_cons_succ, List.set_cons_zero]
            refine wpAnyH_takeD (i := 7) (d := 96) (v := .int .i64 k) rfl (by kernel_rfl) (by kernel_rfl) (by kernel_rfl) (by kernel_rfl) (fun _ _ _ h => h) (Or.inl ⟨by rfl, fun V hV => ?_⟩) hHeld ?_
            · go_simp
            simp only [Act.put, List.setIfInBounds_toArray, List.set_cons_succ, List.set_cons_zero]
            refine wpAnyH_takeD (i := 8) (d := 97) (v := .pointer (some (b.add (k * 18)))) rfl (by kernel_rfl) (by kernel_rfl) (by kernel_rfl) (by kernel_rfl) (fun _ _ _ h => h) (Or.inl ⟨by rfl, fun V hV => ?_⟩) hHeld ?_
            · go_simp
            simp only [Act.put, List.setIfInBounds_toArray, List.set_cons_succ, List.set_cons_zero]
            refine wpAnyH_takeD (i := 9) (d := 98) (v := .agg vs2.toArray) rfl (by kernel_rfl) (by kernel_rfl) (by kernel_rfl) (by kernel_rfl) (fun _ _ _ h => h) (yieldsIf_load_at (by rfl) 44 (.tmp 97) rfl (b.add (k * 18)) rfl vs2 _ (fun V hV => K2.out V hV) Try.underlying44 rfl (by rw [O2.out.1]; exact tn_info)) hHeld ?_
            simp only [Act.put, List.setIfInBounds_toArray, List.set_cons_succ, List.set_cons_zero]
            refine wpAnyH_ready (rs := [10, 11]) (by kernel_rfl) (by simp) ?_
            refine AllReadyH.cons (o := _) rfl (fun K hK => ?_) (AllReadyH.cons (o := _) rfl (fun K hK => ?_) AllReadyH.nil)
            · go_simp
              have L := two_laid U0.out U0.out.size #[.int .i64 0, .string ⟨#[]⟩, .slice none 0 0, .slice none 0 0, .int .i64 0, .int .i64 0, .string ⟨#[]⟩, .string ⟨#[]⟩, .int .u8 0, .int .u64 0, .string ⟨#[]⟩, .slice none 0 0, .slice none 0 0, .int .u8 0, .int .i64 0, .int .i64 0, .int .i64 0, .int .i64 0] vs1.toArray vs2.toArray 44 ZZ1.out.1 ZZ1.out.2 W0.heap.size (W0.heap.size + 1) (by omega) (by first | exact Or.inl rfl | exact Or.inr rfl) (by first | exact Or.inl rfl | exact Or.inr rfl)
              have LL : Hid _ := L
              clear L
              refine hK.out _ _ (U0.out.alloc U0.out.size _) (fun hHeld => ?_)
              clear hK K
              refine wpAnyH_ready (rs := [11]) (by kernel_rfl) (by simp) ?_
              refine AllReadyH.cons (o := _) rfl (fun K hK => ?_) AllReadyH.nil
              go_simp
              refine hK.out _ _ ((U0.out.alloc U0.out.size _).alloc (by have := U0.out.size; simp; omega) _) (fun hHeld => ?_)
              clear hK K
              refine wpAnyH_ready (rs := [12]) (by kernel_rfl) (by simp) ?_
              refine AllReadyH.cons (o := _) rfl (fun K hK => ?_) AllReadyH.nil
              rw [if_pos (by rfl)]
              refine wp_store_row 44 _ _ rfl (W0.heap.size) _ rfl rfl 44 _ LL.out.1 I12.out.1 ZZ1.out.1 O1.out.2 ?_
              refine hK.out _ _ LL.out.2.2.1 (fun hHeld => ?_)
              clear hK K
              rw [put_none (by rfl)]
              refine wpAnyH_ready (rs := [13]) (by kernel_rfl) (by simp) ?_
              refine AllReadyH.cons (o := _) rfl (fun K hK => ?_) AllReadyH.nil
              rw [if_pos (by rfl)]
              refine wp_store_row 44 _ _ rfl ((W0.heap.size + 1)) _ rfl rfl 44 _ LL.out.2.1 I12.out.2 ZZ1.out.2 O2.out.2 ?_
              refine hK.out _ _ LL.out.2.2.2.2.2 (fun hHeld => ?_)
              clear hK K
              refine wpAnyH_done (by kernel_rfl) ?_ _
              rw [put_none (by rfl)]
              refine Met.intro ?_
              go_step
              go_meet
              case rel => exact ⟨W0.heap.size, (W0.heap.size + 1), rfl, rfl, LL.out.2.2.2.1, LL.out.2.2.2.2.1, LL.out.2.2.2.2.2⟩
            · go_simp
              have L := two_laid U0.out U0.out.size #[.int .i64 0, .string ⟨#[]⟩, .slice none 0 0, .slice none 0 0, .int .i64 0, .int .i64 0, .string ⟨#[]⟩, .string ⟨#[]⟩, .int .u8 0, .int .u64 0, .string ⟨#[]⟩, .slice none 0 0, .slice none 0 0, .int .u8 0, .int .i64 0, .int .i64 0, .int .i64 0, .int .i64 0] vs1.toArray vs2.toArray 44 ZZ1.out.1 ZZ1.out.2 (W0.heap.size + 1) W0.heap.size (by omega) (by first | exact Or.inl rfl | exact Or.inr rfl) (by first | exact Or.inl rfl | exact Or.inr rfl)
              have LL : Hid _ := L
              clear L
              refine hK.out _ _ (U0.out.alloc U0.out.size _) (fun hHeld => ?_)
              clear hK K
              refine wpAnyH_ready (rs := [10]) (by kernel_rfl) (by simp) ?_
              refine AllReadyH.cons (o := _) rfl (fun K hK => ?_) AllReadyH.nil
              go_simp
              refine hK.out _ _ ((U0.out.alloc U0.out.size _).alloc (by have := U0.out.size; simp; omega) _) (fun hHeld => ?_)
              clear hK K
              refine wpAnyH_ready (rs := [12]) (by kernel_rfl) (by simp) ?_
              refine AllReadyH.cons (o := _) rfl (fun K hK => ?_) AllReadyH.nil
              rw [if_pos (by rfl)]
              refine wp_store_row 44 _ _ rfl ((W0.heap.size + 1)) _ rfl rfl 44 _ LL.out.1 I12.out.1 ZZ1.out.1 O1.out.2 ?_
              refine hK.out _ _ LL.out.2.2.1 (fun hHeld => ?_)
              clear hK K
              rw [put_none (by rfl)]
              refine wpAnyH_ready (rs := [13]) (by kernel_rfl) (by simp) ?_
              refine AllReadyH.cons (o := _) rfl (fun K hK => ?_) AllReadyH.nil
              rw [if_pos (by rfl)]
              refine wp_store_row 44 _ _ rfl (W0.heap.size) _ rfl rfl 44 _ LL.out.2.1 I12.out.2 ZZ1.out.2 O2.out.2 ?_
              refine hK.out _ _ LL.out.2.2.2.2.2 (fun hHeld => ?_)
              clear hK K
              refine wpAnyH_done (by kernel_rfl) ?_ _
              rw [put_none (by rfl)]
              refine Met.intro ?_
              go_step
              go_meet
              case rel => exact ⟨(W0.heap.size + 1), W0.heap.size, rfl, rfl, LL.out.2.2.2.1, LL.out.2.2.2.2.1, LL.out.2.2.2.2.2⟩
          case rest =>
            obtain ⟨hx, hy, rfl, rfl, ox, oy, hb⟩ := hcut
            obtain ⟨u1, u1c, u2, u2c, u3, u3c, u4, u4c, rfl, hq⟩ := V1.out
            obtain ⟨v1, v1c, v2, v2c, v3, v3c, v4, v4c, rfl, hq'⟩ := V2.out
            have OX : Hid (wc.heap[hx]? = some (.cells #[.int .i64 t1.pl, .string t1.nm, .slice u1 t1.fr.length u1c, .slice u2 t1.to.length u2c, .int .i64 t1.eh.op, .int .i64 t1.eh.pl, .string t1.eh.nm, .string t1.eh.fd, .int .u8 t1.eh.vk, .int .u64 t1.eh.vb, .string t1.eh.vs, .slice u3 t1.ek.length u3c, .slice u4 t1.en.length u4c, .int .u8 t1.eh.kd, .int .i64 t1.eh.ar, .int .i64 t1.eh.rf, .int .i64 t1.eh.fr, .int .i64 t1.eh.up] 44 (0, 0))) := ox
            have OY : Hid (wc.heap[hy]? = some (.cells #[.int .i64 t1.pl, .string t1.nm, .slice v1 t1.fr.length v1c, .slice v2 t1.to.length v2c, .int .i64 t1.eh.op, .int .i64 t1.eh.pl, .string t1.eh.nm, .string t1.eh.fd, .int .u8 t1.eh.vk, .int .u64 t1.eh.vb, .string t1.eh.vs, .slice v3 t1.ek.length v3c, .slice v4 t1.en.length v4c, .int .u8 t1.eh.kd, .int .i64 t1.eh.ar, .int .i64 t1.eh.rf, .int .i64 t1.eh.fr, .int .i64 t1.eh.up] 44 (0, 0))) := oy
            have G2 : Hid (Below wr.heap.size wr wc) := hb
            have zx : hx < wc.heap.size := blk_in2' ox
            have zy : hy < wc.heap.size := blk_in2' oy
            clear ox oy hb
            have nst : (t1.nm.toList != t1.nm.toList) = false := nms_self _
            have FX : Hid (∀ V, Below wc.heap.size wc V → V.heap[hx]? = some (.cells #[.int .i64 t1.pl, .string t1.nm, .slice u1 t1.fr.length u1c, .slice u2 t1.to.length u2c, .int .i64 t1.eh.op, .int .i64 t1.eh.pl, .string t1.eh.nm, .string t1.eh.fd, .int .u8 t1.eh.vk, .int .u64 t1.eh.vb, .string t1.eh.vs, .slice u3 t1.ek.length u3c, .slice u4 t1.en.length u4c, .int .u8 t1.eh.kd, .int .i64 t1.eh.ar, .int .i64 t1.eh.rf, .int .i64 t1.eh.fr, .int .i64 t1.eh.up] 44 (0, 0)) ∧ V.heap[hy]? = some (.cells #[.int .i64 t1.pl, .string t1.nm, .slice v1 t1.fr.length v1c, .slice v2 t1.to.length v2c, .int .i64 t1.eh.op, .int .i64 t1.eh.pl, .string t1.eh.nm, .string t1.eh.fd, .int .u8 t1.eh.vk, .int .u64 t1.eh.vb, .string t1.eh.vs, .slice v3 t1.ek.length v3c, .slice v4 t1.en.length v4c, .int .u8 t1.eh.kd, .int .i64 t1.eh.ar, .int .i64 t1.eh.rf, .int .i64 t1.eh.fr, .int .i64 t1.eh.up] 44 (0, 0))) := fun V hV => ⟨(hV.block _ zx).trans OX.out, (hV.block _ zy).trans OY.out⟩
            have D0 : Hid (Below wc.heap.size wc wc) := Below.refl _ _
            have QQ : Hid (∀ V, Below wr.heap.size wr V → TnQ (fun b => b < V.heap.size) d V t1 u1 u2 u3 u4 ∧ TnQ (fun b => b < V.heap.size) d V t1 v1 v2 v3 v4) := fun V z => ⟨((hq.fr (fun q hq => z.cell (UP.out _ (BW.out wr HW.out) _ hq))).sub (UP.out _ (BW.out _ (B3.out _ z)))), ((hq'.fr (fun q hq => z.cell (UP.out _ (BW.out wr HW.out) _ hq))).sub (UP.out _ (BW.out _ (B3.out _ z))))⟩
            have CALL1 : Hid (∀ V, Below wc.heap.size wc V → Calls Try.prog 23 #[.slice u1 t1.fr.length u1c, .slice v1 t1.fr.length v1c] V fun e w' => e = .returned (.bool true) ∧ Below V.heap.size V w') := fun V hV => by
              have z : Below wr.heap.size wr V := G2.out.trans (hV.mono G2.out.size)
              have q := EqualT u1 v1 t1.fr t1.fr u1c v1c V (QQ.out V z).1.1.1.1 (QQ.out V z).2.1.1.1 (Nat.lt_trans (QQ.out V z).1.1.2 (by decide))
              simpa using q
            have CALL2 : Hid (∀ V, Below wc.heap.size wc V → Calls Try.prog 23 #[.slice u2 t1.to.length u2c, .slice v2 t1.to.length v2c] V fun e w' => e = .returned (.bool true) ∧ Below V.heap.size V w') := fun V hV => by
              have z : Below wr.heap.size wr V := G2.out.trans (hV.mono G2.out.size)
              have q := EqualT u2 v2 t1.to t1.to u2c v2c V (QQ.out V z).1.2.1.1.1 (QQ.out V z).2.2.1.1.1 (Nat.lt_trans (QQ.out V z).1.2.1.2 (by decide))
              simpa using q
            have CALL3 : Hid (∀ V, Below wc.heap.size wc V → Calls Try.prog 24 #[.agg #[.int .i64 t1.eh.op, .int .i64 t1.eh.pl, .string t1.eh.nm, .string t1.eh.fd, .int .u8 t1.eh.vk, .int .u64 t1.eh.vb, .string t1.eh.vs, .slice u3 t1.ek.length u3c, .slice u4 t1.en.length u4c, .int .u8 t1.eh.kd, .int .i64 t1.eh.ar, .int .i64 t1.eh.rf, .int .i64 t1.eh.fr, .int .i64 t1.eh.up], .agg #[.int .i64 t1.eh.op, .int .i64 t1.eh.pl, .string t1.eh.nm, .string t1.eh.fd, .int .u8 t1.eh.vk, .int .u64 t1.eh.vb, .string t1.eh.vs, .slice v3 t1.ek.length v3c, .slice v4 t1.en.length v4c, .int .u8 t1.eh.kd, .int .i64 t1.eh.ar, .int .i64 t1.eh.rf, .int .i64 t1.eh.fr, .int .i64 t1.eh.up]] V fun e w' => e = .returned (.bool true) ∧ Below V.heap.size V w') := fun V hV => by
              have z : Below wr.heap.size wr V := G2.out.trans (hV.mono G2.out.size)
              exact plainX t1.eh u3 u4 v3 v4 _ _ u3c u4c v3c v4c V (fun W' hb => by have q := QQ.out W' (z.trans (hb.mono z.size)); have r := EqualT u4 v4 t1.en t1.en u4c v4c W' q.1.2.2.2.1.1 q.2.2.2.2.1.1 (Nat.lt_trans q.1.2.2.2.2 (by decide)); simpa using r) (fun W' hb => by have q := QQ.out W' (z.trans (hb.mono z.size)); exact plL_of d W' u3 v3 t1.ek u3c v3c q.1.2.2.1.at q.2.2.2.1.at)
            clear QQ
            have p0 : wc.cell? ⟨hx, 0, none⟩ = some (.int .i64 t1.pl) := (by simp [World.cell?, (FX.out wc (Below.refl _ _)).1])
            have p1 : wc.cell? ⟨hx, 1, none⟩ = some (.string t1.nm) := (by simp [World.cell?, (FX.out wc (Below.refl _ _)).1])
            have p2 : wc.cell? ⟨hx, 2, none⟩ = some (.slice u1 t1.fr.length u1c) := (by simp [World.cell?, (FX.out wc (Below.refl _ _)).1])
            have q0 : wc.cell? ⟨hy, 0, none⟩ = some (.int .i64 t1.pl) := (by simp [World.cell?, (FX.out wc (Below.refl _ _)).2])
            have q1 : wc.cell? ⟨hy, 1, none⟩ = some (.string t1.nm) := (by simp [World.cell?, (FX.out wc (Below.refl _ _)).2])
            have q2 : wc.cell? ⟨hy, 2, none⟩ = some (.slice v1 t1.fr.length v1c) := (by simp [World.cell?, (FX.out wc (Below.refl _ _)).2])
            clear hq hq' V1 V2 O1 O2 K1 K2 OX OY zx zy
            have ew : wrap64 ((k : Int) + 1) = (k : Int) + 1 := by have := FW.out.2.1; have := LT.out; unfold wrap64; omega
            go_wp2_with (first | (go_at_call 24; refine (CALL3.out _ D2.out).mono ?_; rintro e v3w ⟨rfl, hb⟩; have D3 : Hid (Below wc.heap.size wc v3w) := D2.out.trans (hb.mono D2.out.size); clear hb) | (go_at_call 23; refine (CALL2.out _ D1.out).mono ?_; rintro e v2w ⟨rfl, hb⟩; have D2 : Hid (Below wc.heap.size wc v2w) := D1.out.trans (hb.mono D1.out.size); have p4 : v2w.cell? ⟨hx, 4, none⟩ = some (.int .i64 t1.eh.op) := (by simp [World.cell?, (FX.out v2w D2.out).1]); have p5 : v2w.cell? ⟨hx, 5, none⟩ = some (.int .i64 t1.eh.pl) := (by simp [World.cell?, (FX.out v2w D2.out).1]); have p6 : v2w.cell? ⟨hx, 6, none⟩ = some (.string t1.eh.nm) := (by simp [World.cell?, (FX.out v2w D2.out).1]); have p7 : v2w.cell? ⟨hx, 7, none⟩ = some (.string t1.eh.fd) := (by simp [World.cell?, (FX.out v2w D2.out).1]); have p8 : v2w.cell? ⟨hx, 8, none⟩ = some (.int .u8 t1.eh.vk) := (by simp [World.cell?, (FX.out v2w D2.out).1]); have p9 : v2w.cell? ⟨hx, 9, none⟩ = some (.int .u64 t1.eh.vb) := (by simp [World.cell?, (FX.out v2w D2.out).1]); have p10 : v2w.cell? ⟨hx, 10, none⟩ = some (.string t1.eh.vs) := (by simp [World.cell?, (FX.out v2w D2.out).1]); have p11 : v2w.cell? ⟨hx, 11, none⟩ = some (.slice u3 t1.ek.length u3c) := (by simp [World.cell?, (FX.out v2w D2.out).1]); have p12 : v2w.cell? ⟨hx, 12, none⟩ = some (.slice u4 t1.en.length u4c) := (by simp [World.cell?, (FX.out v2w D2.out).1]); have p13 : v2w.cell? ⟨hx, 13, none⟩ = some (.int .u8 t1.eh.kd) := (by simp [World.cell?, (FX.out v2w D2.out).1]); have p14 : v2w.cell? ⟨hx, 14, none⟩ = some (.int .i64 t1.eh.ar) := (by simp [World.cell?, (FX.out v2w D2.out).1]); have p15 : v2w.cell? ⟨hx, 15, none⟩ = some (.int .i64 t1.eh.rf) := (by simp [World.cell?, (FX.out v2w D2.out).1]); have p16 : v2w.cell? ⟨hx, 16, none⟩ = some (.int .i64 t1.eh.fr) := (by simp [World.cell?, (FX.out v2w D2.out).1]); have p17 : v2w.cell? ⟨hx, 17, none⟩ = some (.int .i64 t1.eh.up) := (by simp [World.cell?, (FX.out v2w D2.out).1]); have q4 : v2w.cell? ⟨hy, 4, none⟩ = some (.int .i64 t1.eh.op) := (by simp [World.cell?, (FX.out v2w D2.out).2]); have q5 : v2w.cell? ⟨hy, 5, none⟩ = some (.int .i64 t1.eh.pl) := (by simp [World.cell?, (FX.out v2w D2.out).2]); have q6 : v2w.cell? ⟨hy, 6, none⟩ = some (.string t1.eh.nm) := (by simp [World.cell?, (FX.out v2w D2.out).2]); have q7 : v2w.cell? ⟨hy, 7, none⟩ = some (.string t1.eh.fd) := (by simp [World.cell?, (FX.out v2w D2.out).2]); have q8 : v2w.cell? ⟨hy, 8, none⟩ = some (.int .u8 t1.eh.vk) := (by simp [World.cell?, (FX.out v2w D2.out).2]); have q9 : v2w.cell? ⟨hy, 9, none⟩ = some (.int .u64 t1.eh.vb) := (by simp [World.cell?, (FX.out v2w D2.out).2]); have q10 : v2w.cell? ⟨hy, 10, none⟩ = some (.string t1.eh.vs) := (by simp [World.cell?, (FX.out v2w D2.out).2]); have q11 : v2w.cell? ⟨hy, 11, none⟩ = some (.slice v3 t1.ek.length v3c) := (by simp [World.cell?, (FX.out v2w D2.out).2]); have q12 : v2w.cell? ⟨hy, 12, none⟩ = some (.slice v4 t1.en.length v4c) := (by simp [World.cell?, (FX.out v2w D2.out).2]); have q13 : v2w.cell? ⟨hy, 13, none⟩ = some (.int .u8 t1.eh.kd) := (by simp [World.cell?, (FX.out v2w D2.out).2]); have q14 : v2w.cell? ⟨hy, 14, none⟩ = some (.int .i64 t1.eh.ar) := (by simp [World.cell?, (FX.out v2w D2.out).2]); have q15 : v2w.cell? ⟨hy, 15, none⟩ = some (.int .i64 t1.eh.rf) := (by simp [World.cell?, (FX.out v2w D2.out).2]); have q16 : v2w.cell? ⟨hy, 16, none⟩ = some (.int .i64 t1.eh.fr) := (by simp [World.cell?, (FX.out v2w D2.out).2]); have q17 : v2w.cell? ⟨hy, 17, none⟩ = some (.int .i64 t1.eh.up) := (by simp [World.cell?, (FX.out v2w D2.out).2]); clear hb) | (go_at_call 23; refine (CALL1.out _ D0.out).mono ?_; rintro e v1w ⟨rfl, hb⟩; have D1 : Hid (Below wc.heap.size wc v1w) := D0.out.trans (hb.mono D0.out.size); have p3 : v1w.cell? ⟨hx, 3, none⟩ = some (.slice u2 t1.to.length u2c) := (by simp [World.cell?, (FX.out v1w D1.out).1]); have q3 : v1w.cell? ⟨hy, 3, none⟩ = some (.slice v2 t1.to.length v2c) := (by simp [World.cell?, (FX.out v1w D1.out).2]); clear hb))
            try rw [ew]
            exact ⟨⟨k + 1, Nat.succ_le_of_lt LT.out, rfl, B3.out _ (G2.out.trans (D3.out.mono G2.out.size))⟩, msr LT.out⟩
        · have kl : ¬ (k : Int) < m.ts.length := by omega
          obtain ⟨a0, a1, a2, a3, a4, a5⟩ := CA.out wr HW.out
          clear hbw hlt hk
          go_upto_region 18 with fail
          clear a0 a1 a2 a3 a4 a5
          have HX : Hid (Below W.heap.size W wr) := HW.out
          clear HW B3
          go_loopw [139] (fun i wr => ∃ k : Nat, k ≤ m.ac.length ∧ i = .int .i64 k ∧ Below W.heap.size W wr) (fun i _ => m.ac.length - (intOf i).toNat)
          case atStart => exact ⟨0, Nat.zero_le _, rfl, HX.out⟩
          case round =>
            clear HX
            try clear wr
            obtain ⟨k, hk, rfl, hbw⟩ := hrel
            rename World => wr
            have HW : Hid (Below W.heap.size W wr) := hbw
            have B3 : Hid (∀ V, Below wr.heap.size wr V → Below W.heap.size W V) := fun V h => HW.out.trans (h.mono HW.out.size)
            by_cases hlt : k < m.ac.length
            · obtain ⟨a, rfl⟩ := HA.out.2.2.some (by omega)
              obtain ⟨b, rfl⟩ := HB.out.2.2.some (by omega)
              have hb2 : Below w.heap.size w wr := BW.out wr hbw
              obtain ⟨t1, vs1, ee1, hp1, v1, sk1⟩ := (rw_frK (keptAc d) (w' := wr) HA.out.2.2 (old_fr hb2)).el k hlt
              obtain ⟨t2, vs2, ee2, hp2, v2, sk2⟩ := (rw_frK (keptAc d) (w' := wr) HB.out.2.2 (old_fr hb2)).el k hlt
              have ee := Option.some.inj (ee1.symm.trans ee2)
              subst ee
              have E1 : Hid (m.ac[k]? = some t1) := ee1
              have LT : Hid (k < m.ac.length) := hlt
              have kl : (k : Int) < m.ac.length := by omega
              have V1 : Hid (AcP d (fun b => b < w.heap.size) wr t1 vs1) := v1
              have V2 : Hid (AcP d (fun b => b < w.heap.size) wr t1 vs2) := v2
              have K1 : Hid (∀ W, Below wr.heap.size wr W → CsAt W (a.add (k * 3)) vs1) := fun W hW j u hu => (hW.cell (block_lt_of_cell (sk1 j u hu))).trans (sk1 j u hu)
              have K2 : Hid (∀ W, Below wr.heap.size wr W → CsAt W (b.add (k * 3)) vs2) := fun W hW j u hu => (hW.cell (block_lt_of_cell (sk2 j u hu))).trans (sk2 j u hu)
              have O1 : Hid (vs1.length = 3 ∧ vs1.toArray.all (·.oneCell') = true) := AcP.one v1
              have O2 : Hid (vs2.length = 3 ∧ vs2.toArray.all (·.oneCell') = true) := AcP.one v2
              clear hbw hlt ee1 ee2 hp1 hp2 sk1 sk2 v1 v2 hb2
              obtain ⟨a0, a1, a2, a3, a4, a5⟩ := CA.out wr HW.out
              go_upto_region 20 with fail
              clear a0 a1 a2 a3 a4 a5
              go_cut [12, 13] (fun s6 s7 wx => ∃ hx hy, s6 = .pointer (some ⟨hx, 0, none⟩) ∧ s7 = .pointer (some ⟨hy, 0, none⟩) ∧ wx.heap[hx]? = some (.cells vs1.toArray 49 (0, 0)) ∧ wx.heap[hy]? = some (.cells vs2.toArray 49 (0, 0)) ∧ Below wr.heap.size wr wx)
              case first =>
                have ZZ1 : Hid ((#[.int .i64 0, .string ⟨#[]⟩, .slice none 0 0] : Array Value).size = vs1.toArray.size ∧ (#[.int .i64 0, .string ⟨#[]⟩, .slice none 0 0] : Array Value).size = vs2.toArray.size) := ⟨by simp [O1.out.1], by simp [O2.out.1]⟩
                have i1 : (Try.prog.info? 49).map (·.size) = some vs1.toArray.size := by rw [List.size_toArray, O1.out.1]; exact ac_info
                have i2 : (Try.prog.info? 49).map (·.size) = some vs2.toArray.size := by rw [List.size_toArray, O2.out.1]; exact ac_info
                have I12 : Hid ((Try.prog.info? 49).map (·.size) = some vs1.toArray.size ∧ (Try.prog.info? 49).map (·.size) = some vs2.toArray.size) := ⟨i1, i2⟩
                clear i1 i2
                refine wp_region_held_drew (S := fun V => Below wr.heap.size wr V) (by kernel_rfl) ((Below.refl _ _).drew) (fun hHeld => ?_)
                obtain ⟨W0, e0⟩ : ∃ V, V = wr.drew := ⟨_, rfl⟩
                have U0 : Hid (Below wr.heap.size wr W0) := by rw [e0]; exact (Below.refl _ _).drew
                rw [← e0] at hHeld ⊢
                clear e0
                refine wpAnyH_takeD (i := 0) (d := 142) (v := .pointer (some ⟨gx, 2, none⟩)) rfl (by kernel_rfl) (by kernel_rfl) (by kernel_rfl) (by kernel_rfl) (fun _ _ _ h => h) (Or.inl ⟨by rfl, fun V hV => ?_⟩) hHeld ?_
                · go_simp
                simp only [Act.put, List.setIfInBounds_toArray, List.set_cons_succ, List.set_cons_zero]
                refine wpAnyH_takeD (i := 1) (d := 143) (v := .slice (some a) m.ac.length c3) rfl (by kernel_rfl) (by kernel_rfl) (by kernel_rfl) (by kernel_rfl) (fun _ _ _ h => h) (Or.inl ⟨by rfl, fun V hV => ?_⟩) hHeld ?_
                · have q := (CA.out V (B3.out _ hV)).2.2.1
                  go_simp
                simp only [Act.put, List.setIfInBounds_toArray, List.set_cons_succ, List.set_cons_zero]
                refine wpAnyH_takeD (i := 2) (d := 144) (v := .int .i64 k) rfl (by kernel_rfl) (by kernel_rfl) (by kernel_rfl) (by kernel_rfl) (fun _ _ _ h => h) (Or.inl ⟨by rfl, fun V hV => ?_⟩) hHeld ?_
                · go_simp
                simp only [Act.put, List.setIfInBounds_toArray, List.set_cons_succ, List.set_cons_zero]
                refine wpAnyH_takeD (i := 3) (d := 145) (v := .pointer (some (a.add (k * 3)))) rfl (by kernel_rfl) (by kernel_rfl) (by kernel_rfl) (by kernel_rfl) (fun _ _ _ h => h) (Or.inl ⟨by rfl, fun V hV => ?_⟩) hHeld ?_
                · go_simp
                simp only [Act.put, List.setIfInBounds_toArray, List.set_cons_succ, List.set_cons_zero]
                refine wpAnyH_takeD (i := 4) (d := 146) (v := .agg vs1.toArray) rfl (by kernel_rfl) (by kernel_rfl) (by kernel_rfl) (by kernel_rfl) (fun _ _ _ h => h) (yieldsIf_load_at (by rfl) 49 (.tmp 145) rfl (a.add (k * 3)) rfl vs1 _ (fun V hV => K1.out V hV) Try.underlying49 rfl (by rw [O1.out.1]; exact ac_info)) hHeld ?_
                simp only [Act.put, List.setIfInBounds_toArray, List.set_cons_succ, List.set_cons_zero]
                refine wpAnyH_takeD (i := 5) (d := 147) (v := .pointer (some ⟨gx + 1, 2, none⟩)) rfl (by kernel_rfl) (by kernel_rfl) (by kernel_rfl) (by kernel_rfl) (fun _ _ _ h => h) (Or.inl ⟨by rfl, fun V hV => ?_⟩) hHeld ?_
                · go_simp
                simp only [Act.put, List.setIfInBounds_toArray, List.set_cons_succ, List.set_cons_zero]
                refine wpAnyH_takeD (i := 6) (d := 148) (v := .slice (some b) m.ac.length e3) rfl (by kernel_rfl) (by kernel_rfl) (by kernel_rfl) (by kernel_rfl) (fun _ _ _ h => h) (Or.inl ⟨by rfl, fun V hV => ?_⟩) hHeld ?_
                · have q := (CA.out V (B3.out _ hV)).2.2.2.2.2
                  go_simp
                simp only [Act.put, List.setIfInBounds_toArray, List.set_cons_succ, List.set_cons_zero]
                refine wpAnyH_takeD (i := 7) (d := 149) (v := .int .i64 k) rfl (by kernel_rfl) (by kernel_rfl) (by kernel_rfl) (by kernel_rfl) (fun _ _ _ h => h) (Or.inl ⟨by rfl, fun V hV => ?_⟩) hHeld ?_
                · go_simp
                simp only [Act.put, List.setIfInBounds_toArray, List.set_cons_succ, List.set_cons_zero]
                refine wpAnyH_takeD (i := 8) (d := 150) (v := .pointer (some (b.add (k * 3)))) rfl (by kernel_rfl) (by kernel_rfl) (by kernel_rfl) (by kernel_rfl) (fun _ _ _ h => h) (Or.inl ⟨by rfl, fun V hV => ?_⟩) hHeld ?_
                · go_simp
                simp only [Act.put, List.setIfInBounds_toArray, List.set_cons_succ, List.set_cons_zero]
                refine wpAnyH_takeD (i := 9) (d := 151) (v := .agg vs2.toArray) rfl (by kernel_rfl) (by kernel_rfl) (by kernel_rfl) (by kernel_rfl) (fun _ _ _ h => h) (yieldsIf_load_at (by rfl) 49 (.tmp 150) rfl (b.add (k * 3)) rfl vs2 _ (fun V hV => K2.out V hV) Try.underlying49 rfl (by rw [O2.out.1]; exact ac_info)) hHeld ?_
                simp only [Act.put, List.setIfInBounds_toArray, List.set_cons_succ, List.set_cons_zero]
                refine wpAnyH_ready (rs := [10, 11]) (by kernel_rfl) (by simp) ?_
                refine AllReadyH.cons (o := _) rfl (fun K hK => ?_) (AllReadyH.cons (o := _) rfl (fun K hK => ?_) AllReadyH.nil)
                · go_simp
                  have L := two_laid U0.out U0.out.size #[.int .i64 0, .string ⟨#[]⟩, .slice none 0 0] vs1.toArray vs2.toArray 49 ZZ1.out.1 ZZ1.out.2 W0.heap.size (W0.heap.size + 1) (by omega) (by first | exact Or.inl rfl | exact Or.inr rfl) (by first | exact Or.inl rfl | exact Or.inr rfl)
                  have LL : Hid _ := L
                  clear L
                  refine hK.out _ _ (U0.out.alloc U0.out.size _) (fun hHeld => ?_)
                  clear hK K
                  refine wpAnyH_ready (rs := [11]) (by kernel_rfl) (by simp) ?_
                  refine AllReadyH.cons (o := _) rfl (fun K hK => ?_) AllReadyH.nil
                  go_simp
                  refine hK.out _ _ ((U0.out.alloc U0.out.size _).alloc (by have := U0.out.size; simp; omega) _) (fun hHeld => ?_)
                  clear hK K
                  refine wpAnyH_ready (rs := [12]) (by kernel_rfl) (by simp) ?_
                  refine AllReadyH.cons (o := _) rfl (fun K hK => ?_) AllReadyH.nil
                  rw [if_pos (by rfl)]
                  refine wp_store_row 49 _ _ rfl (W0.heap.size) _ rfl rfl 49 _ LL.out.1 I12.out.1 ZZ1.out.1 O1.out.2 ?_
                  refine hK.out _ _ LL.out.2.2.1 (fun hHeld => ?_)
                  clear hK K
                  rw [put_none (by rfl)]
                  refine wpAnyH_ready (rs := [13]) (by kernel_rfl) (by simp) ?_
                  refine AllReadyH.cons (o := _) rfl (fun K hK => ?_) AllReadyH.nil
                  rw [if_pos (by rfl)]
                  refine wp_store_row 49 _ _ rfl ((W0.heap.size + 1)) _ rfl rfl 49 _ LL.out.2.1 I12.out.2 ZZ1.out.2 O2.out.2 ?_
                  refine hK.out _ _ LL.out.2.2.2.2.2 (fun hHeld => ?_)
                  clear hK K
                  refine wpAnyH_done (by kernel_rfl) ?_ _
                  rw [put_none (by rfl)]
                  refine Met.intro ?_
                  go_step
                  go_meet
                  case rel => exact ⟨W0.heap.size, (W0.heap.size + 1), rfl, rfl, LL.out.2.2.2.1, LL.out.2.2.2.2.1, LL.out.2.2.2.2.2⟩
                · go_simp
                  have L := two_laid U0.out U0.out.size #[.int .i64 0, .string ⟨#[]⟩, .slice none 0 0] vs1.toArray vs2.toArray 49 ZZ1.out.1 ZZ1.out.2 (W0.heap.size + 1) W0.heap.size (by omega) (by first | exact Or.inl rfl | exact Or.inr rfl) (by first | exact Or.inl rfl | exact Or.inr rfl)
                  have LL : Hid _ := L
                  clear L
                  refine hK.out _ _ (U0.out.alloc U0.out.size _) (fun hHeld => ?_)
                  clear hK K
                  refine wpAnyH_ready (rs := [10]) (by kernel_rfl) (by simp) ?_
                  refine AllReadyH.cons (o := _) rfl (fun K hK => ?_) AllReadyH.nil
                  go_simp
                  refine hK.out _ _ ((U0.out.alloc U0.out.size _).alloc (by have := U0.out.size; simp; omega) _) (fun hHeld => ?_)
                  clear hK K
                  refine wpAnyH_ready (rs := [12]) (by kernel_rfl) (by simp) ?_
                  refine AllReadyH.cons (o := _) rfl (fun K hK => ?_) AllReadyH.nil
                  rw [if_pos (by rfl)]
                  refine wp_store_row 49 _ _ rfl ((W0.heap.size + 1)) _ rfl rfl 49 _ LL.out.1 I12.out.1 ZZ1.out.1 O1.out.2 ?_
                  refine hK.out _ _ LL.out.2.2.1 (fun hHeld => ?_)
                  clear hK K
                  rw [put_none (by rfl)]
                  refine wpAnyH_ready (rs := [13]) (by kernel_rfl) (by simp) ?_
                  refine AllReadyH.cons (o := _) rfl (fun K hK => ?_) AllReadyH.nil
                  rw [if_pos (by rfl)]
                  refine wp_store_row 49 _ _ rfl (W0.heap.size) _ rfl rfl 49 _ LL.out.2.1 I12.out.2 ZZ1.out.2 O2.out.2 ?_
                  refine hK.out _ _ LL.out.2.2.2.2.2 (fun hHeld => ?_)
                  clear hK K
                  refine wpAnyH_done (by kernel_rfl) ?_ _
                  rw [put_none (by rfl)]
                  refine Met.intro ?_
                  go_step
                  go_meet
                  case rel => exact ⟨(W0.heap.size + 1), W0.heap.size, rfl, rfl, LL.out.2.2.2.1, LL.out.2.2.2.2.1, LL.out.2.2.2.2.2⟩
              case rest =>
                obtain ⟨hx, hy, rfl, rfl, ox, oy, hb⟩ := hcut
                obtain ⟨u1, u1c, rfl, hq⟩ := V1.out
                obtain ⟨v1, v1c, rfl, hq'⟩ := V2.out
                have OX : Hid (wc.heap[hx]? = some (.cells #[.int .i64 t1.pl, .string t1.nm, .slice u1 t1.bd.length u1c] 49 (0, 0))) := ox
                have OY : Hid (wc.heap[hy]? = some (.cells #[.int .i64 t1.pl, .string t1.nm, .slice v1 t1.bd.length v1c] 49 (0, 0))) := oy
                have G2 : Hid (Below wr.heap.size wr wc) := hb
                have zx : hx < wc.heap.size := blk_in2' ox
                have zy : hy < wc.heap.size := blk_in2' oy
                clear ox oy hb
                have nst : (t1.nm.toList != t1.nm.toList) = false := nms_self _
                have FX : Hid (∀ V, Below wc.heap.size wc V → V.heap[hx]? = some (.cells #[.int .i64 t1.pl, .string t1.nm, .slice u1 t1.bd.length u1c] 49 (0, 0)) ∧ V.heap[hy]? = some (.cells #[.int .i64 t1.pl, .string t1.nm, .slice v1 t1.bd.length v1c] 49 (0, 0))) := fun V hV => ⟨(hV.block _ zx).trans OX.out, (hV.block _ zy).trans OY.out⟩
                have D0 : Hid (Below wc.heap.size wc wc) := Below.refl _ _
                have CALL1 : Hid (∀ V, Below wc.heap.size wc V → Calls Try.prog 25 #[.slice u1 t1.bd.length u1c, .slice v1 t1.bd.length v1c] V fun e w' => e = .returned (.bool true) ∧ Below V.heap.size V w') := fun V hV => by
                  have z : Below wr.heap.size wr V := G2.out.trans (hV.mono G2.out.size)
                  exact psL_of d V u1 v1 t1.bd u1c v1c ((hq.fr (fun q hq => z.cell (UP.out _ (BW.out wr HW.out) _ hq))).sub (UP.out _ (BW.out _ (B3.out _ z)))) ((hq'.fr (fun q hq => z.cell (UP.out _ (BW.out wr HW.out) _ hq))).sub (UP.out _ (BW.out _ (B3.out _ z))))
                have p0 : wc.cell? ⟨hx, 0, none⟩ = some (.int .i64 t1.pl) := (by simp [World.cell?, (FX.out wc (Below.refl _ _)).1])
                have p1 : wc.cell? ⟨hx, 1, none⟩ = some (.string t1.nm) := (by simp [World.cell?, (FX.out wc (Below.refl _ _)).1])
                have p2 : wc.cell? ⟨hx, 2, none⟩ = some (.slice u1 t1.bd.length u1c) := (by simp [World.cell?, (FX.out wc (Below.refl _ _)).1])
                have q0 : wc.cell? ⟨hy, 0, none⟩ = some (.int .i64 t1.pl) := (by simp [World.cell?, (FX.out wc (Below.refl _ _)).2])
                have q1 : wc.cell? ⟨hy, 1, none⟩ = some (.string t1.nm) := (by simp [World.cell?, (FX.out wc (Below.refl _ _)).2])
                have q2 : wc.cell? ⟨hy, 2, none⟩ = some (.slice v1 t1.bd.length v1c) := (by simp [World.cell?, (FX.out wc (Below.refl _ _)).2])
                clear hq hq' V1 V2 O1 O2 K1 K2 OX OY zx zy
                have ew : wrap64 ((k : Int) + 1) = (k : Int) + 1 := by have := FW.out.2.2; have := LT.out; unfold wrap64; omega
                go_wp2_with (first | (go_at_call 25; refine (CALL1.out _ D0.out).mono ?_; rintro e v1w ⟨rfl, hb⟩; have D1 : Hid (Below wc.heap.size wc v1w) := D0.out.trans (hb.mono D0.out.size); clear hb))
                try rw [ew]
                exact ⟨⟨k + 1, Nat.succ_le_of_lt LT.out, rfl, B3.out _ (G2.out.trans (D1.out.mono G2.out.size))⟩, msr LT.out⟩
            · have kl : ¬ (k : Int) < m.ac.length := by omega
              obtain ⟨a0, a1, a2, a3, a4, a5⟩ := CA.out wr HW.out
              clear hbw hlt hk
              go_wp2
              go_ret
              exact ⟨by first | rfl | simp, BW.out _ HW.out⟩
end Go.Proofs.Ytcoeinfopfcekaa
