/- image: the document's Decode; no statement of the seat is proved here. -/
import Derived.Test.YtahgnmbkobiclaaGreatJnB4
import Derived.Test.YtahgnmbkobiclaaGreatJnB3
import Derived.Test.YtahgnmbkobiclaaGreatCrKJ
namespace Go.Proofs.YtahgnmbkobiclaaGreat
set_option linter.unusedVariables false
set_option linter.unusedSimpArgs false
open Go.RowKit
theorem Sb.conv {B : Nat} {l : List Nat} {x : Option Addr} {n c : Nat} {V : World} (h : Sb B l (.slice x n c) V) (h0 : 0 < l.length) : (convert 22 9 (.slice x n c)).run Tryz.prog V = .ok (.string (strOfNums (l.map Int.ofNat))) V := by
  have hn := h.len
  subst hn
  obtain ⟨g, hx⟩ : ∃ g, x = some ⟨g, 0, none⟩ := by
    rcases h.2 with ⟨hv, h1⟩ | ⟨g, cap, cur, hv, _⟩
    · exact absurd h1 (by omega)
    · cases hv; exact ⟨g, rfl⟩
  subst hx
  refine run_convert_bytes_arg (P := Tryz.prog) V 22 5 (by kernel_rfl) (by kernel_rfl) g 0 l.length c (l.map Int.ofNat) (by rw [List.length_map]) (fun i hi => ?_) 9 (by kernel_rfl)
  obtain ⟨v, hvi⟩ : ∃ v, l[i]? = some v := ⟨_, List.getElem?_eq_getElem hi⟩
  obtain ⟨a, ha, _, hc⟩ := h.cell i v hvi
  cases ha
  rw [Addr.add_mid, Nat.zero_add] at hc
  rw [Nat.zero_add, hc]
  simp [List.getD, List.getElem?_map, hvi]
theorem nums_inj {a b : List Nat} (ha : ∀ v ∈ a, v < 256) (hb : ∀ v ∈ b, v < 256) (h : strOfNums (a.map Int.ofNat) = strOfNums (b.map Int.ofNat)) : a = b := by
  have e := congrArg (fun s : ByteArray => s.data.toList) h
  simp only [strOfNums_data, List.map_map] at e
  have key : ∀ (l : List Nat), (∀ v ∈ l, v < 256) → (l.map ((fun n : Int => UInt8.ofNat n.toNat) ∘ Int.ofNat)).map (fun i : UInt8 => i.toNat) = l := fun l hl => by
    rw [List.map_map]
    conv => rhs; rw [← List.map_id l]
    exact List.map_congr_left (fun v hv => by simp [UInt8.toNat_ofNat', Nat.mod_eq_of_lt (hl v hv)])
  rw [← key a ha, ← key b hb, e]
theorem cr4N_lt (cc : BitVec 32) : ∀ v ∈ cr4N cc, v < 256 := fun v hv => by
  have h : ∀ x : Int, (x % (256 : Int)).toNat < 256 := fun x => by
    have := Int.emod_nonneg x (show (256 : Int) ≠ 0 by decide)
    have := Int.emod_lt_of_pos x (show (0 : Int) < 256 by decide)
    omega
  unfold cr4N at hv
  simp only [List.mem_cons, List.mem_singleton, List.not_mem_nil, or_false] at hv
  rcases hv with rfl | rfl | rfl | rfl <;> exact h _
theorem mag_new (W : World) (t : TypeId) (k : Nat) (hk : k < 4) : (W.alloc (.cells #[.int .u8 114, .int .u8 108, .int .u8 121, .int .u8 1] t)).cell? ⟨W.heap.size, k, none⟩ = some (.int .u8 (magN k : Nat)) := by
  rcases (show k = 0 ∨ k = 1 ∨ k = 2 ∨ k = 3 by omega) with rfl | rfl | rfl | rfl <;> simp [magN]
theorem ba_ne {a b : ByteArray} (h : ¬ a = b) : (a.toList == b.toList) = false := by
  rw [beq_eq_false_iff_ne]
  intro e
  rw [ByteArray.toList_eq, ByteArray.toList_eq] at e
  exact h (ByteArray.ext (Array.ext' e))
theorem al_below (w : World) (o : Obj) : Below w.heap.size w (w.alloc o) := (Below.refl _ _).alloc (Nat.le_refl _) _
theorem dec_frame {l : List Nat} (h : (frO l).2 ≠ 0) : decE l = frO l := by unfold decE; rw [if_pos h]
set_option maxRecDepth 20000 in
set_option maxHeartbeats 16000000 in
theorem DecodeR (x : Option Addr) (c : Nat) (l : List Nat) (w : World) (h8 : ∀ b ∈ l, b < 256) (hx : BySl x l w) (hc : l.length ≤ c) :
    Calls Tryz.prog 6 #[.slice x l.length c] w fun e w' => (∃ z, e = .returned (.tuple #[z, .int .i64 (decE l).1, .int .i64 (decE l).2]) ∧ DecZ (decM l) (decE l).2 w.heap.size w' z) ∧ Below w.heap.size w w' := by
  have HX : Hid (BySl x l w) := hx
  have HC : Hid (l.length ≤ c) := hc
  have H8 : Hid (∀ b ∈ l, b < 256) := h8
  clear hx hc h8
  obtain ⟨u, eu⟩ : ∃ u, decE l = u := ⟨_, rfl⟩
  rw [eu]
  have RE : Hid (decE l = u) := eu
  obtain ⟨m, em⟩ : ∃ m, decM l = m := ⟨_, rfl⟩
  rw [em]
  have DM : Hid (decM l = m) := em
  clear eu em
  obtain ⟨AW, eW⟩ : ∃ AW, AW = w.alloc (.cells #[.string ⟨#[]⟩, .slice none 0 0, .slice none 0 0, .slice none 0 0] 28 (0, 0)) := ⟨_, rfl⟩
  have X0 : Hid (AW.heap[w.heap.size]? = some (.cells #[.string ⟨#[]⟩, .slice none 0 0, .slice none 0 0, .slice none 0 0] 28 (0, 0))) := by rw [eW]; exact heap_alloc_last _ _
  have B0 : Hid (Below w.heap.size w AW) := by rw [eW]; exact (Below.refl _ _).alloc (Nat.le_refl _) _
  have Z0 : Hid (w.heap.size < AW.heap.size) := by rw [eW]; show _ < _; simp
  go_enter Tryz.func6, Tryz.ntmps6
  go_upto_region 1 with fail
  rw [← eW]
  clear eW
  by_cases hb : 4194304 < l.length
  · have hb' : (4194304 : Int) < l.length := by omega
    have U : Hid (u = (0, 4)) := by
      show _ = _
      have e : frO l = (0, 4) := by unfold frO; rw [if_pos hb]
      rw [← RE.out, dec_frame (by rw [e]; decide), e]
    clear hb
    have NZ : Hid (u.2 ≠ 0) := by show _ ≠ _; rw [U.out]; (first | exact YN.out | (show (4 : Int) ≠ 0; decide))
    go_wp2_with (refine wpList_store_row rfl 28 _ _ rfl w.heap.size _ rfl rfl _ _ X0.out img_info rfl (by kernel_rfl) ?_)
    refine bodyPost_ret (v := .tuple #[.agg #[.string ⟨#[]⟩, .slice none 0 0, .slice none 0 0, .slice none 0 0], .int .i64 0, .int .i64 4]) (results_cell_row_2 Tryz.results6 _ _ w.heap.size _ _ (0, 0) _ (by first | rfl | simp [Act.put]) (setRow_heap _ _ _ _ _ _ X0.out) Tryz.underlying28 rfl img_info) rfl ?_
    exact ⟨⟨_, by rw [U.out], ⟨fun _ => rfl, fun q => absurd q NZ.out⟩⟩, row_below_d B0.out (Nat.le_refl _) _⟩
  · have hb' : ¬ (4194304 : Int) < l.length := by omega
    have LN : Hid (l.length ≤ 4194304) := by show _ ≤ _; omega
    clear hb
    go_upto_region 4 with fail
    obtain ⟨V1, e1⟩ : ∃ V1, V1 = AW.alloc (.cells #[.int .u8 114, .int .u8 108, .int .u8 121, .int .u8 1] 5 (0, 0)) := ⟨_, rfl⟩
    obtain ⟨g1, eg⟩ : ∃ g1, g1 = AW.heap.size := ⟨_, rfl⟩
    try rw [← e1]
    try rw [← eg]
    have M1 : Hid (∀ k, k < 4 → V1.cell? ⟨g1, k, none⟩ = some (.int .u8 (magN k : Nat)) ∧ g1 < V1.heap.size) := fun k hk => by rw [e1, eg]; exact ⟨mag_new AW _ k hk, by simp⟩
    have A1 : Below AW.heap.size AW V1 := by rw [e1]; exact (Below.refl _ _).alloc (Nat.le_refl _) _
    have B1 : Hid (Below w.heap.size w V1) := B0.out.trans (A1.mono B0.out.size)
    have X1 : Hid (V1.heap[w.heap.size]? = some (.cells #[.string ⟨#[]⟩, .slice none 0 0, .slice none 0 0, .slice none 0 0] 28 (0, 0))) := (A1.block _ Z0.out).trans X0.out
    have Z1 : Hid (w.heap.size < V1.heap.size) := Nat.lt_of_lt_of_le Z0.out A1.size
    clear A1 e1 eg B0 X0 Z0
    go_wp2
    go_loopw [6] (fun i wr => ∃ k : Nat, i = .int .i64 k ∧ k ≤ 4 ∧ k ≤ l.length ∧ (∀ j, j < k → l.getD j 0 = magN j) ∧ Below V1.heap.size V1 wr) (fun i _ => 4 - (intOf i).toNat)
    case atStart => exact ⟨0, rfl, by omega, by omega, fun j hj => absurd hj (Nat.not_lt_zero _), Below.refl _ _⟩
    case round =>
      obtain ⟨k, rfl, hk4, hkl, hE, hW⟩ := hrel
      have BW : Hid (Below V1.heap.size V1 wr) := hW
      have B2 : Hid (Below w.heap.size w wr) := B1.out.trans (hW.mono B1.out.size)
      have X2 : Hid (wr.heap[w.heap.size]? = some (.cells #[.string ⟨#[]⟩, .slice none 0 0, .slice none 0 0, .slice none 0 0] 28 (0, 0))) := (hW.block _ Z1.out).trans X1.out
      have Z2 : Hid (w.heap.size < wr.heap.size) := Nat.lt_of_lt_of_le Z1.out hW.size
      have EQ : Hid (∀ j, j < k → l.getD j 0 = magN j) := hE
      clear hE
      by_cases hk : k < 4
      · have kM : (k : Int) < 4 := by omega
        by_cases hl : k < l.length
        · obtain ⟨b, eb⟩ : ∃ b, l.getD k 0 = b := ⟨_, rfl⟩
          have hbb : l[k]? = some b := by rw [← eb, List.getD_eq_getElem?_getD, List.getElem?_eq_getElem hl]; rfl
          obtain ⟨kb, o, hx, hk1, hk2⟩ := HX.out k _ hbb
          subst hx
          have v0 := (B2.out.cell hk1).trans hk2
          have v1 := (hW.cell (p := ⟨g1, k, none⟩) (M1.out k hk).2).trans (M1.out k hk).1
          have hb8 := H8.out _ (List.mem_of_getElem? hbb)
          have kn : (k : Int) < l.length := by omega
          have kn' : ¬ (l.length : Int) ≤ k := by omega
          have GD : Hid (l.getD k 0 = b ∧ k < l.length ∧ k < 4) := ⟨eb, hl, hk⟩
          have ew : wrap64 ((k : Int) + 1) = (k : Int) + 1 := by unfold wrap64; omega
          have MG : Hid (magN k < 256) := by show _ < _; rcases (show k = 0 ∨ k = 1 ∨ k = 2 ∨ k = 3 by omega) with rfl | rfl | rfl | rfl <;> decide
          obtain ⟨mk, em⟩ : ∃ mk, magN k = mk := ⟨_, rfl⟩
          rw [em] at v1
          have MK : Hid (magN k = mk) := em
          clear hW hk1 hk2 hbb eb hk4 hkl hk hl em
          by_cases q : b = mk
          · subst q
            go_upto_region 9 with fail
            go_quiet (fail)
            obtain ⟨W, eW⟩ : ∃ W, W = wr.drewN nq := ⟨_, rfl⟩
            rw [← eW]
            have B3 : Hid (Below V1.heap.size V1 W) := by rw [eW]; exact bl_drewN BW.out _
            clear eW v0 v1
            go_wp2
            try rw [ew]
            exact ⟨⟨k + 1, rfl, by have := GD.out; omega, by have := GD.out; omega, fun j hj => by rcases Nat.lt_succ_iff_lt_or_eq.1 hj with z | z; exact EQ.out j z; subst z; rw [MK.out]; exact GD.out.1, B3.out⟩, by have := GD.out; show 4 - ((k : Int) + 1).toNat < 4 - (k : Int).toNat; omega⟩
          · have q' : ((b : Int) == (mk : Int)) = false := by rw [beq_eq_false_iff_ne]; omega
            have q2 : ¬ (b : Int) = mk := by omega
            have q3 : ((b : Int) != (mk : Int)) = true := by rw [bne_iff_ne]; omega
            have q4 : ¬ b = mk := q
            have U : Hid (u = ((k : Int), 200)) := by
              have z := frO_bad LN.out (fm_at (k := k) GD.out.2.2 GD.out.2.1 EQ.out (by rw [GD.out.1, MK.out]; exact q))
              show _ = _
              rw [← RE.out, dec_frame (by rw [z]; show (200 : Int) ≠ 0; decide), z]
            clear q
            go_upto_region 9 with fail
            go_quiet (fail)
            obtain ⟨W, eW⟩ : ∃ W, W = wr.drewN nq := ⟨_, rfl⟩
            rw [← eW]
            have B3 : Hid (Below w.heap.size w W) := by rw [eW]; exact bl_drewN B2.out _
            have X3 : Hid (W.heap[w.heap.size]? = some (.cells #[.string ⟨#[]⟩, .slice none 0 0, .slice none 0 0, .slice none 0 0] 28 (0, 0))) := by rw [eW]; exact X2.out
            clear eW v0 v1
            have NZ : Hid (u.2 ≠ 0) := by show _ ≠ _; rw [U.out]; (first | exact YN.out | (show (200 : Int) ≠ 0; decide))
            go_wp2_with (refine wpList_store_row rfl 28 _ _ rfl w.heap.size _ rfl rfl _ _ X3.out img_info rfl (by kernel_rfl) ?_)
            refine bodyPost_ret (v := .tuple #[.agg #[.string ⟨#[]⟩, .slice none 0 0, .slice none 0 0, .slice none 0 0], .int .i64 k, .int .i64 200]) (results_cell_row_2 Tryz.results6 _ _ w.heap.size _ _ (0, 0) _ (by first | rfl | simp [Act.put]) (setRow_heap _ _ _ _ _ _ X3.out) Tryz.underlying28 rfl img_info) rfl ?_
            exact ⟨⟨_, by rw [U.out], ⟨fun _ => rfl, fun q => absurd q NZ.out⟩⟩, row_below_d B3.out (Nat.le_refl _) _⟩
        · have ek : k = l.length := by omega
          subst ek
          have U : Hid (u = ((l.length : Int), 2)) := by
            have z := frO_short (l := l) (by omega) (fm_no (fun j h1 h2 => EQ.out j h2))
            show _ = _
            rw [← RE.out, dec_frame (by rw [z]; show (2 : Int) ≠ 0; decide), z]
          have kn' : (l.length : Int) ≤ l.length := by omega
          clear hk hkl hk4 hl hW
          have NZ : Hid (u.2 ≠ 0) := by show _ ≠ _; rw [U.out]; (first | exact YN.out | (show (2 : Int) ≠ 0; decide))
          go_wp2_with (refine wpList_store_row rfl 28 _ _ rfl w.heap.size _ rfl rfl _ _ X2.out img_info rfl (by kernel_rfl) ?_)
          refine bodyPost_ret (v := .tuple #[.agg #[.string ⟨#[]⟩, .slice none 0 0, .slice none 0 0, .slice none 0 0], .int .i64 l.length, .int .i64 2]) (results_cell_row_2 Tryz.results6 _ _ w.heap.size _ _ (0, 0) _ (by first | rfl | simp [Act.put]) (setRow_heap _ _ _ _ _ _ X2.out) Tryz.underlying28 rfl img_info) rfl ?_
          exact ⟨⟨_, by rw [U.out], ⟨fun _ => rfl, fun q => absurd q NZ.out⟩⟩, row_below_d B2.out (Nat.le_refl _) _⟩
      · have ek : k = 4 := by omega
        subst ek
        have fmn : Hid (fm l = none) := fm_no (fun j h1 h2 => EQ.out j h1)
        clear hk hkl hk4 hW
        by_cases h8 : l.length < 8
        · have U : Hid (u = ((l.length : Int), 2)) := by
            have z := frO_short h8 fmn.out
            show _ = _
            rw [← RE.out, dec_frame (by rw [z]; show (2 : Int) ≠ 0; decide), z]
          have e1 : wrap64 ((l.length : Int) - 4) = (l.length : Int) - 4 := by have := LN.out; unfold wrap64; omega
          have e2 : (l.length : Int) - 4 < 4 := by omega
          clear h8
          have NZ : Hid (u.2 ≠ 0) := by show _ ≠ _; rw [U.out]; (first | exact YN.out | (show (2 : Int) ≠ 0; decide))
          go_wp2_with (refine wpList_store_row rfl 28 _ _ rfl w.heap.size _ rfl rfl _ _ X2.out img_info rfl (by kernel_rfl) ?_)
          refine bodyPost_ret (v := .tuple #[.agg #[.string ⟨#[]⟩, .slice none 0 0, .slice none 0 0, .slice none 0 0], .int .i64 l.length, .int .i64 2]) (results_cell_row_2 Tryz.results6 _ _ w.heap.size _ _ (0, 0) _ (by first | rfl | simp [Act.put]) (setRow_heap _ _ _ _ _ _ X2.out) Tryz.underlying28 rfl img_info) rfl ?_
          exact ⟨⟨_, by rw [U.out], ⟨fun _ => rfl, fun q => absurd q NZ.out⟩⟩, row_below_d B2.out (Nat.le_refl _) _⟩
        · obtain ⟨E, eE⟩ : ∃ E, l.length = E + 4 := ⟨l.length - 4, by omega⟩
          obtain ⟨b0, hb0⟩ : ∃ b, l[0]? = some b := ⟨_, List.getElem?_eq_getElem (by omega)⟩
          obtain ⟨kb, o, hx, hk1, _⟩ := HX.out 0 _ hb0
          subst hx
          have BY : Hid (ByAt kb o l w) := fun j v hj => by
            obtain ⟨kb', o', e, _, h⟩ := HX.out j v hj
            cases e
            exact h
          have KB : Hid (kb < w.heap.size) := hk1
          have EE : Hid (l.length = E + 4 ∧ 4 ≤ E) := ⟨eE, by omega⟩
          have e1 : wrap64 ((l.length : Int) - 4) = (E : Int) := by have := LN.out; unfold wrap64; omega
          have e2 : ¬ (E : Int) < 4 := by omega
          have e1' : (l.length : Int) - 4 = (E : Int) := by omega
          have e2n : ¬ E < 4 := by omega
          have e2m : 4 ≤ E := by omega
          have e2i : (4 : Int) ≤ E := by omega
          have e3 : (E : Int) ≤ c := by have := HC.out; omega
          have e4 : (E : Int) ≤ l.length := by omega
          have e5 : (0 : Int) ≤ E := by omega
          clear hk1 hb0 h8
          have BL : Hid (∀ V, Below wr.heap.size wr V → ByAt kb o l V) := fun V hV j v hj => ((B2.out.trans (hV.mono B2.out.size)).cell (p := ⟨kb, o + j, none⟩) KB.out).trans (BY.out j v hj)
          have CV : Hid (∀ V, Below wr.heap.size wr V → (convert 22 9 (.slice (some ⟨kb, o, none⟩) l.length c)).run Tryz.prog V = .ok (.string (strOfNums (l.map Int.ofNat))) V) := fun V hV =>
            run_convert_bytes_arg (P := Tryz.prog) V 22 5 (by kernel_rfl) (by kernel_rfl) kb o l.length c (l.map Int.ofNat) (by rw [List.length_map]) (fun i hi => by
              obtain ⟨v, hvi⟩ : ∃ v, l[i]? = some v := ⟨_, List.getElem?_eq_getElem hi⟩
              rw [BL.out V hV i v hvi]
              simp [List.getD, List.getElem?_map, hvi]) 9 (by kernel_rfl)
          have IL : Hid ((inn l).length = E ∧ inn l = l.take E) := by
            have e : inn l = l.take E := by unfold inn; rw [eE]; rfl
            exact ⟨by rw [e, List.length_take]; omega, e⟩
          have IN : Hid (∀ (j : Nat) b, (inn l)[j]? = some b → l[j]? = some b) := fun j b hj => by
            rw [IL.out.2, List.getElem?_take] at hj
            split at hj
            · exact hj
            · cases hj
          have I8 : Hid (∀ v ∈ inn l, v < 256) := fun v hv => by rw [IL.out.2] at hv; exact H8.out v (List.mem_of_mem_take hv)
          have SM : Hid (∀ V, Below wr.heap.size wr V → Calls Tryz.prog 13 #[.slice (some ⟨kb, o, none⟩) E c] V fun e w' => ∃ v', e = .returned v' ∧ Sb V.heap.size (inn l ++ cr4N (crcF (inn l))) v' w' ∧ Bq V.heap.size V w') := fun V hV => by
            have q := SummedB V.heap.size ⟨kb, o, none⟩ c (inn l) V (fun j b hj => by rw [Addr.add_mid]; exact BL.out V hV j b (IN.out j b hj)) (Nat.le_refl _) (by rw [IL.out.1]; have := LN.out; omega) I8.out
            rw [IL.out.1] at q
            exact q
          have LL : Hid (l.length ≤ c ∧ E + 4 = l.length) := ⟨HC.out, by omega⟩
          generalize hSB : strOfNums (l.map Int.ofNat) = SB at *
          have HSB : Hid (strOfNums (l.map Int.ofNat) = SB) := hSB
          generalize hSA : strOfNums ((inn l ++ cr4N (crcF (inn l))).map Int.ofNat) = SA at *
          have HSA : Hid (strOfNums ((inn l ++ cr4N (crcF (inn l))).map Int.ofNat) = SA) := hSA
          clear hSB hSA eE
          go_upto_region 14 with fail
          refine wp_region_held_drew (S := fun V => Below wr.heap.size wr V) (by kernel_rfl) ((Below.refl _ _).drew) (fun hHeld => ?_)
          refine wpAnyH_takeD (i := 0) (d := 48) (v := .slice (some ⟨kb, o, none⟩) l.length c) rfl (by kernel_rfl) (by kernel_rfl) (by kernel_rfl) (by kernel_rfl) (fun _ _ _ h => h) (Or.inl ⟨by rfl, fun V hV => ?_⟩) hHeld ?_
          · go_simp
          simp only [Act.put, List.setIfInBounds_toArray, List.set_cons_succ, List.set_cons_zero]
          refine wpAnyH_takeD (i := 1) (d := 49) (v := .int .i64 E) rfl (by kernel_rfl) (by kernel_rfl) (by kernel_rfl) (by kernel_rfl) (fun _ _ _ h => h) (Or.inl ⟨by rfl, fun V hV => ?_⟩) hHeld ?_
          · go_simp
          simp only [Act.put, List.setIfInBounds_toArray, List.set_cons_succ, List.set_cons_zero]
          refine wpAnyH_takeD (i := 2) (d := 50) (v := .slice (some ⟨kb, o, none⟩) E c) rfl (by kernel_rfl) (by kernel_rfl) (by kernel_rfl) (by kernel_rfl) (fun _ _ _ h => h) (Or.inl ⟨by rfl, fun V hV => ?_⟩) hHeld ?_
          · go_simp
          simp only [Act.put, List.setIfInBounds_toArray, List.set_cons_succ, List.set_cons_zero]
          refine wpAnyH_takeD (i := 5) (d := 53) (v := .slice (some ⟨kb, o, none⟩) l.length c) rfl (by kernel_rfl) (by kernel_rfl) (by kernel_rfl) (by kernel_rfl) (fun _ _ _ h => h) (Or.inl ⟨by rfl, fun V hV => ?_⟩) hHeld ?_
          · go_simp
          simp only [Act.put, List.setIfInBounds_toArray, List.set_cons_succ, List.set_cons_zero]
          refine wpAnyH_takeD (i := 6) (d := 54) (v := .string SB) rfl (by kernel_rfl) (by kernel_rfl) (by kernel_rfl) (by kernel_rfl) (fun _ _ _ h => h) (Or.inl ⟨by rfl, fun V hV => ?_⟩) hHeld ?_
          · have cv := CV.out V hV
            go_simp
          simp only [Act.put, List.setIfInBounds_toArray, List.set_cons_succ, List.set_cons_zero]
          refine wpAnyH_ready (rs := [3]) (by kernel_rfl) (by simp) ?_
          refine AllReadyH.cons (o := _) rfl (fun K hK => ?_) AllReadyH.nil
          go_simp
          refine (SM.out _ hHeld).mono ?_
          rintro e w5 ⟨v5, rfl, hs5, hq5⟩
          have S5 : Hid (Sb wr.drew.heap.size (inn l ++ cr4N (crcF (inn l))) v5 w5) := hs5
          have H5 : Hid (Below wr.heap.size wr w5) := hHeld.trans (hq5.b.mono hHeld.size)
          refine hK.out _ _ H5.out (fun hHeld => ?_)
          clear hK K hq5 hs5
          obtain ⟨tx, tn, tc, rfl⟩ := S5.out.form
          have cv : (convert 22 9 (.slice tx tn tc)).run Tryz.prog w5 = .ok (.string SA) w5 := by rw [← HSA.out]; exact S5.out.conv (by rw [List.length_append]; have := IL.out.1; have := EE.out; omega)
          refine wpAnyH_ready (rs := [4]) (by kernel_rfl) (by simp) ?_
          refine AllReadyH.cons (o := _) rfl (fun K hK => ?_) AllReadyH.nil
          go_simp
          refine hK.out _ _ H5.out (fun hHeld => ?_)
          clear hK K cv
          by_cases q : SA = SB
          · have LQ : inn l ++ cr4N (crcF (inn l)) = l := nums_inj (fun v hv => by rcases List.mem_append.1 hv with z | z; exact I8.out v z; exact cr4N_lt _ v z) H8.out (by rw [HSA.out, HSB.out, q])
            have FZ : Hid (frO l = (0, 0)) := by
              show _ = _
              unfold frO
              rw [if_neg (by have := LN.out; omega), fmn.out]
              show (if l.length < 8 then _ else if cr4N (crcF (inn l)) = l.drop (l.length - 4) then _ else _) = _
              have e : cr4N (crcF (inn l)) = l.drop (l.length - 4) := by
                conv => rhs; rw [← LQ]
                rw [List.drop_left' (by rw [← LQ, List.length_append]; show _ = _ + 4 - 4; omega)]
              rw [if_neg (by have := EE.out; omega), if_pos e]
            clear LQ
            have q1 : (SA.toList == SB.toList) = true := by rw [q]; exact beq_self_eq_true _
            refine wpAnyH_ready (rs := [7]) (by kernel_rfl) (by simp) ?_
            refine AllReadyH.cons (o := _) rfl (fun K hK => ?_) AllReadyH.nil
            go_simp
            refine hK.out _ _ H5.out (fun hHeld => ?_)
            clear hK K
            refine wpAnyH_done (by kernel_rfl) ?_ _
            clear q q1
            have B5 : Hid (Below w.heap.size w w5) := B2.out.trans (H5.out.mono B2.out.size)
            have X5 : Hid (w5.heap[w.heap.size]? = some (.cells #[.string ⟨#[]⟩, .slice none 0 0, .slice none 0 0, .slice none 0 0] 28 (0, 0))) := (H5.out.block _ Z2.out).trans X2.out
            have Y5 : Hid (w.heap.size < w5.heap.size) := Nat.lt_of_lt_of_le Z2.out H5.out.size
            have BY5 : Hid (ByAt kb o (inn l) w5) := fun j v hj => BL.out w5 H5.out j v (IN.out j v hj)
            clear B2 X2 Z2 BL CV SM HSA HSB S5 H5 BW B1 X1 Z1 M1
            obtain ⟨t, et⟩ : ∃ t, decT l = t := ⟨_, rfl⟩
            have DT : Hid (decT l = t) := et
            have IM : Hid (∀ r W, Cu r kb o c (inn l) ⟨4, 0, 0⟩ W → Calls Tryz.prog 14 #[.pointer (some ⟨r, 0, none⟩)] W fun e w' => (∃ x1 c1 x2 c2 x3 c3, e = .returned (.agg #[.string m.nm, .slice x1 m.cs.length c1, .slice x2 m.fs.length c2, .slice x3 m.js.length c3]) ∧ ImQ (Fresh W.heap.size w'.heap.size) w' m x1 x2 x3) ∧ Cu r kb o c (inn l) t w' ∧ W.grownBy w' (some r)) := fun r W h => by
              have q := imageC r kb o c (inn l) ⟨4, 0, 0⟩ W h
              rw [← DM.out, ← et]
              exact q
            clear et
            go_step
            go_upto_region 17 with fail
            obtain ⟨V6, e6⟩ : ∃ V, V = w5.alloc (.cells #[.slice (some ⟨kb, o, none⟩) E c, .int .i64 4, .int .i64 0, .int .i64 0] 42 (0, 0)) := ⟨_, rfl⟩
            obtain ⟨r, er⟩ : ∃ r, r = w5.heap.size := ⟨_, rfl⟩
            rw [← e6]
            try rw [← er]
            have CU : Hid (Cu r kb o c (inn l) ⟨4, 0, 0⟩ V6) := by
              have z5 := Y5.out
              have zk := KB.out
              refine ⟨?_, fun j v hj => ?_, ?_, ?_, ?_, ?_, ?_, I8.out⟩
              · rw [e6, er]; unfold CuAt; rw [IL.out.1]; exact heap_alloc_last _ _
              · rw [e6]; exact ((al_below w5 _).cell (p := ⟨kb, o + j, none⟩) (by show kb < w5.heap.size; omega)).trans (BY5.out j v hj)
              · show 4 ≤ (inn l).length; rw [IL.out.1]; exact EE.out.2
              · rw [IL.out.1]; have := EE.out; have := LN.out; omega
              · rw [IL.out.1]; have := EE.out; have := HC.out; omega
              · rw [er]; omega
              · rw [e6]; have := (al_below w5 (.cells #[.slice (some ⟨kb, o, none⟩) E c, .int .i64 4, .int .i64 0, .int .i64 0] 42 (0, 0))).size; omega
            have A6 : Below w5.heap.size w5 V6 := by rw [e6]; exact al_below _ _
            have B6 : Hid (Below w.heap.size w V6) := B5.out.trans (A6.mono B5.out.size)
            have X6 : Hid (V6.heap[w.heap.size]? = some (.cells #[.string ⟨#[]⟩, .slice none 0 0, .slice none 0 0, .slice none 0 0] 28 (0, 0))) := (A6.block _ Y5.out).trans X5.out
            have R6 : Hid (w.heap.size < r ∧ r < V6.heap.size) := ⟨by rw [er]; exact Y5.out, by rw [e6, er]; simp⟩
            clear A6 e6 er B5 X5 Y5 BY5
            go_wp2_with fail
            refine (IM.out _ _ CU.out).mono ?_
            rintro e w7 ⟨⟨x1, c1, x2, c2, x3, c3, rfl, hq⟩, hcu, hg⟩
            have B7 : Hid (Below w.heap.size w w7) := gb_below (by have := R6.out; omega) B6.out hg
            have X7 : Hid (w7.heap[w.heap.size]? = some (.cells #[.string ⟨#[]⟩, .slice none 0 0, .slice none 0 0, .slice none 0 0] 28 (0, 0))) := (hg.block _ (by have := R6.out; omega) (by have := R6.out; intro z; cases z; omega)).trans X6.out
            have Q7 : Hid (ImQ (Fresh V6.heap.size w7.heap.size) w7 m x1 x2 x3) := hq
            have U7 : Hid (CuAt r (some ⟨kb, o, none⟩) (inn l).length c t.p t.a t.y w7) := hcu.at_
            have S7 : Hid (w.heap.size < r ∧ r < V6.heap.size ∧ V6.heap.size ≤ w7.heap.size) := ⟨R6.out.1, R6.out.2, hg.size⟩
            clear hq hcu hg B6 X6 CU R6 IM
            go_upto_region 18 with fail
            obtain ⟨V8, e8⟩ : ∃ V, V = w7.alloc (.cells #[.string m.nm, .slice x1 m.cs.length c1, .slice x2 m.fs.length c2, .slice x3 m.js.length c3] 28 (0, 0)) := ⟨_, rfl⟩
            obtain ⟨r9, e9⟩ : ∃ r, r = w7.heap.size := ⟨_, rfl⟩
            rw [← e8]
            try rw [← e9]
            have A8 : Below w7.heap.size w7 V8 := by rw [e8]; exact al_below _ _
            have B8 : Hid (Below w.heap.size w V8) := B7.out.trans (A8.mono B7.out.size)
            have X8 : Hid (V8.heap[w.heap.size]? = some (.cells #[.string ⟨#[]⟩, .slice none 0 0, .slice none 0 0, .slice none 0 0] 28 (0, 0))) := (A8.block _ (by have := S7.out; omega)).trans X7.out
            have Y8 : Hid (V8.heap[r9]? = some (.cells #[.string m.nm, .slice x1 m.cs.length c1, .slice x2 m.fs.length c2, .slice x3 m.js.length c3] 28 (0, 0))) := by rw [e8, e9]; exact heap_alloc_last _ _
            have Q8 : Hid (ImQ (Fresh V6.heap.size w7.heap.size) V8 m x1 x2 x3) := Q7.out.fr (fun q hq => A8.cell hq.2)
            have U8 : Hid (CuAt r (some ⟨kb, o, none⟩) (inn l).length c t.p t.a t.y V8) := (A8.block r (by have := S7.out; omega)).trans U7.out
            have S8 : Hid (w.heap.size < r ∧ r < V6.heap.size ∧ V6.heap.size ≤ w7.heap.size ∧ w7.heap.size = r9 ∧ r9 < V8.heap.size) := ⟨S7.out.1, S7.out.2.1, S7.out.2.2, e9.symm, by rw [e8, e9]; simp⟩
            clear A8 e8 e9 B7 X7 Q7 U7 S7
            obtain ⟨tp, ta, ty⟩ := t
            by_cases hy : ty = 0
            · subst hy
              have v3 := U8.out.cs.2.2.2
              have OK : Hid (ImOk m) := by show ImOk m; rw [← DM.out]; exact dec_ok H8.out (by rw [FZ.out]) (by rw [DT.out])
              have CK : Hid (Calls Tryz.prog 15 #[.agg #[.string m.nm, .slice x1 m.cs.length c1, .slice x2 m.fs.length c2, .slice x3 m.js.length c3]] V8 fun e w' => e = .returned (t3 (chk m)) ∧ Below V8.heap.size V8 w') := CheckR_of m x1 x2 x3 c1 c2 c3 V8 (fun b hb => by have := S8.out; exact Nat.lt_of_lt_of_le hb.2 (by omega)) Q8.out OK.out
              obtain ⟨⟨k1, k2, k3⟩, ek⟩ : ∃ k, chk m = k := ⟨_, rfl⟩
              rw [ek] at CK
              have UK : Hid (u = (0, k3)) := by
                show _ = _
                rw [← RE.out]
                unfold decE
                rw [FZ.out, if_neg (fun z => z rfl), DT.out, if_neg (fun z => z rfl), DM.out, ek]
              clear ek OK
              unfold t3 at CK
              go_upto_region 20 with fail
              clear v3
              go_wp2_with (refine wpList_load_row rfl 28 _ rfl r9 rfl 28 #[.string m.nm, .slice x1 m.cs.length c1, .slice x2 m.fs.length c2, .slice x3 m.js.length c3] (0, 0) _ Y8.out Tryz.underlying28 rfl img_info ?_)
              refine (CK.out).mono ?_
              rintro e w9 ⟨rfl, hb⟩
              have B9 : Hid (Below w.heap.size w w9) := B8.out.trans (hb.mono B8.out.size)
              have X9 : Hid (w9.heap[w.heap.size]? = some (.cells #[.string ⟨#[]⟩, .slice none 0 0, .slice none 0 0, .slice none 0 0] 28 (0, 0))) := (hb.block _ (by have := S8.out; omega)).trans X8.out
              have Y9 : Hid (w9.heap[r9]? = some (.cells #[.string m.nm, .slice x1 m.cs.length c1, .slice x2 m.fs.length c2, .slice x3 m.js.length c3] 28 (0, 0))) := (hb.block _ S8.out.2.2.2.2).trans Y8.out
              have Q9 : Hid (ImQ (Fresh V6.heap.size w7.heap.size) w9 m x1 x2 x3) := Q8.out.fr (fun q hq => hb.cell (by have := S8.out; exact Nat.lt_of_lt_of_le hq.2 (by omega)))
              have S9 : Hid (w.heap.size < V6.heap.size ∧ w7.heap.size ≤ w9.heap.size) := by have := S8.out; have := hb.size; exact ⟨by omega, by omega⟩
              clear hb B8 X8 Y8 Q8 U8 S8 CK
              by_cases hk : k3 = 0
              · subst hk
                go_wp2_with (first | (refine wpList_load_row rfl 28 _ rfl r9 rfl 28 #[.string m.nm, .slice x1 m.cs.length c1, .slice x2 m.fs.length c2, .slice x3 m.js.length c3] (0, 0) _ Y9.out Tryz.underlying28 rfl img_info ?_) | (refine wpList_store_row rfl 28 _ _ rfl w.heap.size _ rfl rfl _ _ X9.out img_info rfl (by kernel_rfl) ?_))
                refine bodyPost_ret (v := .tuple #[.agg #[.string m.nm, .slice x1 m.cs.length c1, .slice x2 m.fs.length c2, .slice x3 m.js.length c3], .int .i64 0, .int .i64 0]) (results_cell_row_2 Tryz.results6 _ _ w.heap.size _ _ (0, 0) _ (by first | rfl | simp [Act.put]) (setRow_heap _ _ _ _ _ _ X9.out) Tryz.underlying28 rfl img_info) rfl ?_
                refine ⟨⟨_, by rw [UK.out], ⟨fun z => absurd (by rw [UK.out]) z, fun _ => ⟨x1, c1, x2, c2, x3, c3, rfl, ?_⟩⟩⟩, row_below_d B9.out (Nat.le_refl _) _⟩
                have s9 := S9.out
                refine (Q9.out.fr (fun q hq => World.cell?_of_block (setRow_other _ _ _ _ (by have := hq.1; omega)))).sub (up_sub' (by omega) ?_)
                simp [World.setRow]
                omega
              · have YN : Hid (k3 ≠ 0) := hk
                have NZ : Hid (u.2 ≠ 0) := by show _ ≠ _; rw [UK.out]; (first | exact YN.out | (show (k3 : Int) ≠ 0; decide))
                go_wp2_with (refine wpList_store_row rfl 28 _ _ rfl w.heap.size _ rfl rfl _ _ X9.out img_info rfl (by kernel_rfl) ?_)
                refine bodyPost_ret (v := .tuple #[.agg #[.string ⟨#[]⟩, .slice none 0 0, .slice none 0 0, .slice none 0 0], .int .i64 0, .int .i64 k3]) (results_cell_row_2 Tryz.results6 _ _ w.heap.size _ _ (0, 0) _ (by first | rfl | simp [Act.put]) (setRow_heap _ _ _ _ _ _ X9.out) Tryz.underlying28 rfl img_info) rfl ?_
                exact ⟨⟨_, by rw [UK.out], ⟨fun _ => rfl, fun q => absurd q NZ.out⟩⟩, row_below_d B9.out (Nat.le_refl _) _⟩
            · have v3 := U8.out.cs.2.2.2
              have U : Hid (u = (ta, ty)) := by
                show _ = _
                rw [← RE.out]
                unfold decE
                rw [FZ.out, if_neg (fun z => z rfl), DT.out, if_pos hy]
              have YN : Hid (ty ≠ 0) := hy
              go_upto_region 19 with fail
              clear v3
              refine wp_region_held_drew (S := fun V => CuAt r (some ⟨kb, o, none⟩) (inn l).length c tp ta ty V) (by kernel_rfl) U8.out (fun hHeld => ?_)
              refine wpAnyH_takeD (i := 0) (d := 70) (v := .agg #[.string ⟨#[]⟩, .slice none 0 0, .slice none 0 0, .slice none 0 0]) rfl (by kernel_rfl) (by kernel_rfl) (by kernel_rfl) (by kernel_rfl) (fun _ _ _ h => h) (Or.inl ⟨by rfl, fun V hV => ?_⟩) hHeld ?_
              · go_simp
              simp only [Act.put, List.setIfInBounds_toArray, List.set_cons_succ, List.set_cons_zero]
              refine wpAnyH_takeD (i := 1) (d := 71) (v := .pointer (some ⟨r, 0, none⟩)) rfl (by kernel_rfl) (by kernel_rfl) (by kernel_rfl) (by kernel_rfl) (fun _ _ _ h => h) (Or.inl ⟨by rfl, fun V hV => ?_⟩) hHeld ?_
              · go_simp
              simp only [Act.put, List.setIfInBounds_toArray, List.set_cons_succ, List.set_cons_zero]
              refine wpAnyH_takeD (i := 2) (d := 72) (v := .pointer (some ⟨r, 0, none⟩)) rfl (by kernel_rfl) (by kernel_rfl) (by kernel_rfl) (by kernel_rfl) (fun _ _ _ h => h) (Or.inl ⟨by rfl, fun V hV => ?_⟩) hHeld ?_
              · go_simp
              simp only [Act.put, List.setIfInBounds_toArray, List.set_cons_succ, List.set_cons_zero]
              refine wpAnyH_takeD (i := 3) (d := 73) (v := .pointer (some ⟨r, 2, none⟩)) rfl (by kernel_rfl) (by kernel_rfl) (by kernel_rfl) (by kernel_rfl) (fun _ _ _ h => h) (Or.inl ⟨by rfl, fun V hV => ?_⟩) hHeld ?_
              · go_simp
              simp only [Act.put, List.setIfInBounds_toArray, List.set_cons_succ, List.set_cons_zero]
              refine wpAnyH_takeD (i := 4) (d := 74) (v := .int .i64 ta) rfl (by kernel_rfl) (by kernel_rfl) (by kernel_rfl) (by kernel_rfl) (fun _ _ _ h => h) (Or.inl ⟨by rfl, fun V hV => ?_⟩) hHeld ?_
              · have v2 := hV.cs.2.2.1
                go_simp
              simp only [Act.put, List.setIfInBounds_toArray, List.set_cons_succ, List.set_cons_zero]
              refine wpAnyH_takeD (i := 5) (d := 75) (v := .pointer (some ⟨r, 0, none⟩)) rfl (by kernel_rfl) (by kernel_rfl) (by kernel_rfl) (by kernel_rfl) (fun _ _ _ h => h) (Or.inl ⟨by rfl, fun V hV => ?_⟩) hHeld ?_
              · go_simp
              simp only [Act.put, List.setIfInBounds_toArray, List.set_cons_succ, List.set_cons_zero]
              refine wpAnyH_takeD (i := 6) (d := 76) (v := .pointer (some ⟨r, 0, none⟩)) rfl (by kernel_rfl) (by kernel_rfl) (by kernel_rfl) (by kernel_rfl) (fun _ _ _ h => h) (Or.inl ⟨by rfl, fun V hV => ?_⟩) hHeld ?_
              · go_simp
              simp only [Act.put, List.setIfInBounds_toArray, List.set_cons_succ, List.set_cons_zero]
              refine wpAnyH_takeD (i := 7) (d := 77) (v := .pointer (some ⟨r, 3, none⟩)) rfl (by kernel_rfl) (by kernel_rfl) (by kernel_rfl) (by kernel_rfl) (fun _ _ _ h => h) (Or.inl ⟨by rfl, fun V hV => ?_⟩) hHeld ?_
              · go_simp
              simp only [Act.put, List.setIfInBounds_toArray, List.set_cons_succ, List.set_cons_zero]
              refine wpAnyH_takeD (i := 8) (d := 78) (v := .int .i64 ty) rfl (by kernel_rfl) (by kernel_rfl) (by kernel_rfl) (by kernel_rfl) (fun _ _ _ h => h) (Or.inl ⟨by rfl, fun V hV => ?_⟩) hHeld ?_
              · have v3 := hV.cs.2.2.2
                go_simp
              simp only [Act.put, List.setIfInBounds_toArray, List.set_cons_succ, List.set_cons_zero]
              refine wpAnyH_ready (rs := [9]) (by kernel_rfl) (by simp) ?_
              refine AllReadyH.cons (o := _) rfl (fun K hK => ?_) AllReadyH.nil
              rw [if_pos (by rfl)]
              refine wp_store_row 28 _ _ rfl w.heap.size _ rfl rfl 28 _ X8.out img_info rfl (by kernel_rfl) ?_
              have W9 : CuAt r (some ⟨kb, o, none⟩) (inn l).length c tp ta ty (V8.drew.setRow w.heap.size #[.string ⟨#[]⟩, .slice none 0 0, .slice none 0 0, .slice none 0 0]) := (setRow_other _ _ _ _ (by have := S8.out; omega)).trans U8.out
              have X9 : (V8.drew.setRow w.heap.size #[.string ⟨#[]⟩, .slice none 0 0, .slice none 0 0, .slice none 0 0]).heap[w.heap.size]? = some (.cells #[.string ⟨#[]⟩, .slice none 0 0, .slice none 0 0, .slice none 0 0] 28 (0, 0)) := setRow_heap _ _ _ _ _ _ X8.out
              have B9 : Below w.heap.size w (V8.drew.setRow w.heap.size #[.string ⟨#[]⟩, .slice none 0 0, .slice none 0 0, .slice none 0 0]) := row_below_d B8.out.drew (Nat.le_refl _) _
              refine hK.out _ _ W9 (fun hHeld => ?_)
              clear hK K
              rw [put_nO (by rfl)]
              refine wpAnyH_ready (rs := [10]) (by kernel_rfl) (by simp) ?_
              refine AllReadyH.cons (o := _) rfl (fun K hK => ?_) AllReadyH.nil
              go_simp
              refine hK.out _ _ W9 (fun hHeld => ?_)
              clear hK K
              refine wpAnyH_ready (rs := [11]) (by kernel_rfl) (by simp) ?_
              refine AllReadyH.cons (o := _) rfl (fun K hK => ?_) AllReadyH.nil
              go_simp
              refine hK.out _ _ W9 (fun hHeld => ?_)
              clear hK K
              refine wpAnyH_done (by kernel_rfl) ?_ _
              go_step
              go_wp2
              refine bodyPost_ret (v := .tuple #[.agg #[.string ⟨#[]⟩, .slice none 0 0, .slice none 0 0, .slice none 0 0], .int .i64 ta, .int .i64 ty]) (results_cell_row_2 Tryz.results6 _ _ w.heap.size _ _ (0, 0) _ (by first | rfl | simp [Act.put]) X9 Tryz.underlying28 rfl img_info) rfl ?_
              exact ⟨⟨_, by rw [U.out], ⟨fun _ => rfl, fun q => absurd q (by rw [U.out]; exact YN.out)⟩⟩, B9⟩
          · have U : Hid (u = ((E : Int), 201)) := by
              show _ = _
              have e : ¬ cr4N (crcF (inn l)) = l.drop (l.length - 4) := fun z => q (by rw [← HSA.out, ← HSB.out, z]; congr 2; unfold inn; exact (List.take_append_drop _ _))
              have z : frO l = ((E : Int), 201) := by
                unfold frO
                rw [if_neg (by have := LN.out; omega), fmn.out]
                show (if l.length < 8 then _ else if cr4N (crcF (inn l)) = l.drop (l.length - 4) then _ else _) = _
                rw [if_neg (by have := EE.out; omega), if_neg e]
                have := EE.out
                show (((l.length : Int) - 4, (201 : Int)) : Int × Int) = _
                rw [show (l.length : Int) - 4 = (E : Int) by omega]
              rw [← RE.out, dec_frame (by rw [z]; show (201 : Int) ≠ 0; decide), z]
            have q1 : (SA.toList == SB.toList) = false := ba_ne q
            refine wpAnyH_ready (rs := [7]) (by kernel_rfl) (by simp) ?_
            refine AllReadyH.cons (o := _) rfl (fun K hK => ?_) AllReadyH.nil
            go_simp
            refine hK.out _ _ H5.out (fun hHeld => ?_)
            clear hK K
            refine wpAnyH_done (by kernel_rfl) ?_ _
            have B5 : Hid (Below w.heap.size w w5) := B2.out.trans (H5.out.mono B2.out.size)
            have X5 : Hid (w5.heap[w.heap.size]? = some (.cells #[.string ⟨#[]⟩, .slice none 0 0, .slice none 0 0, .slice none 0 0] 28 (0, 0))) := (H5.out.block _ Z2.out).trans X2.out
            go_step
            have NZ : Hid (u.2 ≠ 0) := by show _ ≠ _; rw [U.out]; (first | exact YN.out | (show (201 : Int) ≠ 0; decide))
            go_wp2_with (refine wpList_store_row rfl 28 _ _ rfl w.heap.size _ rfl rfl _ _ X5.out img_info rfl (by kernel_rfl) ?_)
            refine bodyPost_ret (v := .tuple #[.agg #[.string ⟨#[]⟩, .slice none 0 0, .slice none 0 0, .slice none 0 0], .int .i64 E, .int .i64 201]) (results_cell_row_2 Tryz.results6 _ _ w.heap.size _ _ (0, 0) _ (by first | rfl | simp [Act.put]) (setRow_heap _ _ _ _ _ _ X5.out) Tryz.underlying28 rfl img_info) rfl ?_
            exact ⟨⟨_, by rw [U.out], ⟨fun _ => rfl, fun q => absurd q NZ.out⟩⟩, row_below_d B5.out (Nat.le_refl _) _⟩
end Go.Proofs.YtahgnmbkobiclaaGreat
