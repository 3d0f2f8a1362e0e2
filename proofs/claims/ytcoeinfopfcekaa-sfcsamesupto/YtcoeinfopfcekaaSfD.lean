/- slices.EqualFunc over transitions; no statement of the seat is proved here. -/
import Derived.Test.YtcoeinfopfcekaaSfC
import Derived.Deep.DeepCutAuto
import Derived.Deep.RegionHeld3
namespace Go.Proofs.Ytcoeinfopfcekaa
set_option linter.unusedVariables false
open Go.RowKit
theorem run_loadVar_at {P : Program} (w : World) (p : Addr) (ty : TypeId) (cs : List Value) (d : TypeDesc) (hc : CsAt w p cs)
    (hu : P.underlying ty = some d) (hd : (match d with | .struct _ | .array _ _ => true | _ => false) = true) (hi : (P.info? ty).map (·.size) = some cs.length) :
    (loadVar ty p).run P w = .ok (.agg cs.toArray) w := by
  have hl : (loadCells p cs.length).run P w = .ok cs.toArray w := run_loadCells_list (P := P) w p cs (fun j v hv => hc j v hv)
  cases hq : P.info? ty with
  | none => simp [hq] at hi
  | some i =>
    have hs : i.size = cs.length := by simpa [hq] using hi
    have hagg : (isAgg ty).run P w = .ok true w := by
      unfold isAgg
      rw [Sem.run_bind, run_underlying hu w]
      cases d <;> simp_all
    simp [loadVar, Sem.run_bind, hagg, sizeOf, typeInfo, hq, hs, hl]
theorem wpList_load_at {P : Program} {ops : Array Oper} {rest : List Oper} {op : Oper} {a : Act} {w : World} {Q : Exit → Act → World → Prop} (hgd : op.guard = none) (ty : TypeId) (x : Operand) (ho : op.op = .load ty x)
    (p : Addr) (hx : a.eval x = .pointer (some p)) (cs : List Value) (d : TypeDesc) (hc : CsAt w p cs)
    (hu : P.underlying ty = some d) (hd : (match d with | .struct _ | .array _ _ => true | _ => false) = true) (hi : (P.info? ty).map (·.size) = some cs.length)
    (h : wpList P ops Q rest (a.put op.dst (.agg cs.toArray)) w) : wpList P ops Q (op :: rest) a w :=
  wpList_plain hgd fun K hK => by
    unfold Oper.wp execOp
    simp only [ho, hx, Instr.loadAt, Instr.sureAddr, Sem.run_bind, Sem.run_pure, Result.andThen_ok, run_loadVar_at w p ty cs d hc hu hd hi]
    exact hK _ _ h
theorem tn_info : (Try.prog.info? 44).map (·.size) = some 18 := by kernel_rfl
theorem TnP.one {d : Nat} {S : Nat → Prop} {w : World} {t : TnR} {vs : List Value} (h : TnP d S w t vs) : vs.length = 18 ∧ vs.toArray.all (·.oneCell') = true := by
  obtain ⟨x1, c1, x2, c2, x3, c3, x4, c4, rfl, _⟩ := h
  exact ⟨rfl, by simp [tnC, Value.oneCell']⟩
/-- A value laid in a new block, zeros before. -/
theorem laid_new (w : World) (Z vs : Array Value) (T : TypeId) (hz : Z.size = vs.size) : ((w.alloc (.cells Z T)).setRow w.heap.size vs).heap[w.heap.size]? = some (.cells vs T (0, 0)) ∧ Below w.heap.size w ((w.alloc (.cells Z T)).setRow w.heap.size vs) ∧ ((w.alloc (.cells Z T)).setRow w.heap.size vs).heap.size = w.heap.size + 1 :=
  ⟨setRow_heap _ _ Z _ T (0, 0) (heap_alloc_new w _), ((Below.refl w.heap.size w).alloc (Nat.le_refl _) _).trans ⟨rfl, rfl, rfl, by simp, fun k hk => setRow_other _ _ _ _ (by omega)⟩, by simp⟩
set_option maxRecDepth 20000 in
set_option maxHeartbeats 4000000 in
theorem EqualFTn (F d : Nat) (f : TnR → TnR → Bool) (x y : Option Addr) (l l' : List TnR) (c c2 : Nat) (w : World) (ha : RwF 18 (TnP d (fun b => b < w.heap.size) w) (fun b => b < w.heap.size) w x l) (hb : RwF 18 (TnP d (fun b => b < w.heap.size) w) (fun b => b < w.heap.size) w y l')
    (hE : ∀ args w, (callFunc F args).run Try.prog w = .ok (.enter F args) w)
    (hF : ∀ W vs vs' e e', Below w.heap.size w W → e ∈ l → TnP d (fun b => b < w.heap.size) W e vs → TnP d (fun b => b < w.heap.size) W e' vs' → Calls Try.prog F #[.agg vs.toArray, .agg vs'.toArray] W fun r w' => r = .returned (.bool (f e e')) ∧ Below W.heap.size W w') :
    Calls Try.prog 14 #[.slice x l.length c, .slice y l'.length c2, .func (.func F) #[] #[]] w fun e w' => e = .returned (.bool (smL f l l')) ∧ Below w.heap.size w w' := by
  have HA : Hid (RwF 18 (TnP d (fun b => b < w.heap.size) w) (fun b => b < w.heap.size) w x l) := ha
  have HB : Hid (RwF 18 (TnP d (fun b => b < w.heap.size) w) (fun b => b < w.heap.size) w y l') := hb
  have HF : Hid _ := hF
  clear ha hb hF
  by_cases el : l.length = l'.length
  · generalize hn : l'.length = n at *
    have HN : Hid _ := hn
    clear hn
    subst el
    go_enter Try.func14, Try.ntmps14
    go_upto_region 3 with fail
    go_upto_region 4 with fail
    go_loopw [17] (fun i wr => ∃ k : Nat, k ≤ l.length ∧ i = .int .i64 k ∧ Below w.heap.size w wr ∧ ∀ (j : Nat) e e', j < k → l[j]? = some e → l'[j]? = some e' → f e e' = true) (fun i _ => l.length - (intOf i).toNat)
    case atStart => exact ⟨0, Nat.zero_le _, rfl, Below.refl _ _, fun j _ _ hj => absurd hj (Nat.not_lt_zero _)⟩
    case round =>
      obtain ⟨k, hk, rfl, hbw, hall⟩ := hrel
      have HW : Hid (Below w.heap.size w wr) := hbw
      have AL : Hid _ := hall
      clear hall
      by_cases hlt : k < l.length
      · obtain ⟨a, rfl⟩ := HA.out.some (by omega)
        obtain ⟨b, rfl⟩ := HB.out.some (by have := HN.out; omega)
        obtain ⟨t1, vs1, ee1, hp1, v1, sk1⟩ := (rw_frK (keptTn d) (w' := wr) HA.out (old_fr hbw)).el k hlt
        obtain ⟨t2, vs2, ee2, hp2, v2, sk2⟩ := (rw_frK (keptTn d) (w' := wr) HB.out (old_fr hbw)).el k (by have := HN.out; omega)
        have E1 : Hid _ := ee1
        have E2 : Hid _ := ee2
        have V1 : Hid (TnP d (fun b => b < w.heap.size) wr t1 vs1) := v1
        have V2 : Hid (TnP d (fun b => b < w.heap.size) wr t2 vs2) := v2
        have K1 : Hid (CsAt wr (a.add (k * 18)) vs1) := sk1
        have K2 : Hid (∀ W, Below wr.heap.size wr W → CsAt W (b.add (k * 18)) vs2) := fun W hW j u hu => (hW.cell (block_lt_of_cell (sk2 j u hu))).trans (sk2 j u hu)
        have O1 : Hid _ := TnP.one v1
        have O2 : Hid _ := TnP.one v2
        have LT : Hid _ := hlt
        have kl : (k : Int) < l.length := by omega
        clear hbw hlt ee1 ee2 hp1 hp2 sk1 sk2 v1 v2
        go_upto_region 5 with fail
        have n1 : vs1.length = 18 := O1.out.1
        have n2 : vs2.length = 18 := O2.out.1
        have st1 : ∀ W : World, (storeCells ⟨W.heap.size, 0, none⟩ vs1 0).run Try.prog (W.alloc (.cells #[.int .i64 0, .string ⟨#[]⟩, .slice none 0 0, .slice none 0 0, .int .i64 0, .int .i64 0, .string ⟨#[]⟩, .string ⟨#[]⟩, .int .u8 0, .int .u64 0, .string ⟨#[]⟩, .slice none 0 0, .slice none 0 0, .int .u8 0, .int .i64 0, .int .i64 0, .int .i64 0, .int .i64 0] 44)) = .ok () (W.alloc (.cells vs1.toArray 44)) := fun W => run_storeCells_new (P := Try.prog) W 44 _ vs1.toArray (by rw [List.size_toArray, O1.out.1]; exact tn_info) (by simp [O1.out.1]) O1.out.2
        have st2 : ∀ W : World, (storeCells ⟨W.heap.size, 0, none⟩ vs2 0).run Try.prog (W.alloc (.cells #[.int .i64 0, .string ⟨#[]⟩, .slice none 0 0, .slice none 0 0, .int .i64 0, .int .i64 0, .string ⟨#[]⟩, .string ⟨#[]⟩, .int .u8 0, .int .u64 0, .string ⟨#[]⟩, .slice none 0 0, .slice none 0 0, .int .u8 0, .int .i64 0, .int .i64 0, .int .i64 0, .int .i64 0] 44)) = .ok () (W.alloc (.cells vs2.toArray 44)) := fun W => run_storeCells_new (P := Try.prog) W 44 _ vs2.toArray (by rw [List.size_toArray, O2.out.1]; exact tn_info) (by simp [O2.out.1]) O2.out.2
        go_upto_region 6 with (refine wpList_load_at rfl 44 _ rfl (a.add (k * 18)) rfl vs1 _ K1.out Try.underlying44 rfl (by rw [O1.out.1]; exact tn_info) ?_)
        obtain ⟨W1, e1⟩ : ∃ W, W = wr.alloc (.cells vs1.toArray 44) := ⟨_, rfl⟩
        obtain ⟨g1, eg⟩ : ∃ n, n = wr.heap.size := ⟨_, rfl⟩
        try rw [← e1]
        try rw [← eg]
        have X1 : Hid (W1.heap[g1]? = some (.cells vs1.toArray 44 (0, 0))) := by rw [e1, eg]; exact heap_alloc_new _ _
        have B1 : Hid (Below wr.heap.size wr W1) := by rw [e1]; exact (Below.refl _ _).alloc (Nat.le_refl _) _
        clear e1 eg
        go_upto_region 7 with (refine wpList_load_at rfl 44 _ rfl (b.add (k * 18)) rfl vs2 _ (K2.out _ B1.out) Try.underlying44 rfl (by rw [O2.out.1]; exact tn_info) ?_)
        obtain ⟨W2, e2⟩ : ∃ W, W = W1.alloc (.cells vs2.toArray 44) := ⟨_, rfl⟩
        obtain ⟨g2, eg⟩ : ∃ n, n = W1.heap.size := ⟨_, rfl⟩
        try rw [← e2]
        try rw [← eg]
        have X2 : Hid (W2.heap[g2]? = some (.cells vs2.toArray 44 (0, 0))) := by rw [e2, eg]; exact heap_alloc_new _ _
        have X1' : Hid (W2.heap[g1]? = some (.cells vs1.toArray 44 (0, 0))) := by rw [e2]; exact (Below.heap_alloc _ _ _ (lt_of_block X1.out)).trans X1.out
        have B2 : Hid (Below wr.heap.size wr W2) := by rw [e2]; exact B1.out.trans (((Below.refl _ _).alloc (Nat.le_refl _) _).mono B1.out.size)
        clear e2 eg st1 st2 X1 B1 K1 K2
        go_wp2_with (first
          | (refine wpList_load_row rfl 44 _ rfl g1 rfl 44 vs1.toArray (0, 0) _ X1'.out Try.underlying44 rfl (by rw [List.size_toArray, O1.out.1]; exact tn_info) ?_)
          | (refine wpList_load_row rfl 44 _ rfl g2 rfl 44 vs2.toArray (0, 0) _ X2.out Try.underlying44 rfl (by rw [List.size_toArray, O2.out.1]; exact tn_info) ?_))
        refine (HF.out W2 vs1 vs2 t1 t2 (HW.out.trans (B2.out.mono HW.out.size)) (List.mem_of_getElem? E1.out) ((keptTn d).fr V1.out (fun q hq => B2.out.cell (Nat.lt_of_lt_of_le hq HW.out.size))) ((keptTn d).fr V2.out (fun q hq => B2.out.cell (Nat.lt_of_lt_of_le hq HW.out.size)))).mono ?_
        rintro r w5 ⟨rfl, hb5⟩
        have B5 : Hid (Below w.heap.size w w5) := HW.out.trans ((B2.out.trans (hb5.mono B2.out.size)).mono HW.out.size)
        clear hb5 B2 X1' X2 V1 V2
        cases q : f t1 t2
        · have ed := smL_bad f l l' k _ _ E1.out E2.out q
          clear q
          go_wp2
          go_ret
          exact ⟨by first | rfl | (rw [ed]; rfl), B5.out⟩
        · have Q : Hid _ := q
          clear q
          have ew : wrap64 ((k : Int) + 1) = (k : Int) + 1 := by have := HA.out.1; have := LT.out; unfold wrap64; omega
          go_wp2
          rw [ew]
          exact ⟨⟨k + 1, Nat.succ_le_of_lt LT.out, rfl, B5.out, fun j e e' hj a b => by
            rcases Nat.lt_succ_iff_lt_or_eq.1 hj with h | rfl
            · exact AL.out j e e' h a b
            · rw [E1.out] at a; rw [E2.out] at b; cases a; cases b; exact Q.out⟩, msr LT.out⟩
      · have kl : ¬ (k : Int) < l.length := by omega
        have ed := smL_all f l l' HN.out.symm fun i e e' a b => AL.out i e e' (by
          apply Classical.byContradiction
          intro q
          rw [List.getElem?_eq_none (by omega)] at a
          cases a) a b
        clear hbw hlt
        go_wp2
        go_ret
        exact ⟨by first | rfl | (rw [ed]; rfl), HW.out⟩
  · have el' : ((l.length : Int) == (l'.length : Int)) = false := by rw [beq_eq_false_iff_ne]; omega
    have el2 : ((l.length : Int) != (l'.length : Int)) = true := by simp [bne, el']
    have ed := smL_len f l l' el
    clear el
    go_enter Try.func14, Try.ntmps14
    go_wp2
    go_ret
    exact ⟨by first | rfl | (rw [ed]; rfl), Below.refl _ _⟩
end Go.Proofs.Ytcoeinfopfcekaa
