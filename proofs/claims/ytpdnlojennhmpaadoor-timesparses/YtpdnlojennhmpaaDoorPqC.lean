/- What readSpan of times answers of every text, exactly; no statement of the seat is proved here. -/
import Derived.Test.YtpdnlojennhmpaaDoorPqB
import Derived.Test.YtpdnlojennhmpaaDoorSubG
namespace Go.Proofs.YtpdnlojennhmpaaDoor
set_option linter.unusedVariables false
open Go.RowKit
theorem bb1q {W w2 : World} {x : Obj} (hb : Below (W.alloc x).heap.size (W.alloc x) w2) : (∀ o, w2.cell? ⟨W.heap.size, o, none⟩ = (W.alloc x).cell? ⟨W.heap.size, o, none⟩) ∧ (∀ o, w2.frozen? ⟨W.heap.size, o, none⟩ = (W.alloc x).frozen? ⟨W.heap.size, o, none⟩) ∧ W.heap.size < w2.heap.size ∧ Below W.heap.size W w2 := by
  have hs := hb.size
  simp at hs
  exact ⟨fun o => hb.cell (p := ⟨W.heap.size, o, none⟩) (by simp), fun o => hb.frozen (p := ⟨W.heap.size, o, none⟩) (by simp), by omega, ((Below.refl _ _).alloc (Nat.le_refl _) _).trans (hb.mono (by simp))⟩
theorem bl_list (l : List UInt8) : (bl l).data.toList = l := by simp
theorem ptO_nofu (l : List UInt8) (k : Nat) (h : fuO (Lib.toUpperA (cpU l)) k = none) : ptO l k = none := by
  unfold ptO
  split
  · rfl
  · split
    · rfl
    · rw [h]
theorem ptO_rest (l : List UInt8) (k : Nat) (h : cpD l = true ∧ cpR l ≠ []) : ptO l k = none := by
  unfold ptO
  split
  · rfl
  · split
    · rfl
    · split
      · rfl
      · rw [if_pos ⟨h.1, Or.inr h.2⟩]
/-- The number and the fraction of a part, as they are read. -/
def rnN (l : List UInt8) : Int := (rnF l 0).getD 0
def rnP (l : List UInt8) : Bool := (rnF l 0).isSome && !l.isEmpty
def frN (u : Nat) (l : List UInt8) : Int := (((frO u l).getD 0 : Nat) : Int)
theorem rnV_q (l : List UInt8) : rnV (bl l) = .tuple #[.int .i64 (rnN l), .bool (rnP l)] := by
  unfold rnV rnN rnP
  rw [bl_list, q_empty, bl_list]
  cases rnF l 0 <;> rfl
theorem rfV_q (u : Nat) (l : List UInt8) (h : AllD l) : rfV (u : Int) (bl l) = .tuple #[.int .i64 (frN u l), .bool (frO u l).isSome] := by
  unfold rfV frN
  rw [bl_list, rf_frO u l h]
  cases frO u l <;> rfl
theorem rnN_bd (l : List UInt8) : 0 ≤ rnN l ∧ rnN l ≤ 9223372036854775807 := by
  unfold rnN
  cases h : rnF l 0 with
  | none => simp
  | some n => exact rnF_bd l 0 n (by omega) (by omega) h
theorem qL_bd (i : Nat) : 1 ≤ qL i ∧ qL i ≤ 86400000000000 := by
  unfold qL
  by_cases h : i < 7
  · rcases (by omega : i = 0 ∨ i = 1 ∨ i = 2 ∨ i = 3 ∨ i = 4 ∨ i = 5 ∨ i = 6) with rfl | rfl | rfl | rfl | rfl | rfl | rfl <;> decide
  · rw [List.getD_eq_getElem?_getD, List.getElem?_eq_none (by show 7 ≤ i; omega)]; decide
theorem frN_bd (i : Nat) (l : List UInt8) (h : AllD l) : 0 ≤ frN (qL i) l ∧ frN (qL i) l ≤ 86400000000000 := by
  unfold frN
  have b := qL_bd i
  cases q : frO (qL i) l with
  | none => simp
  | some f =>
    have := frO_lt (qL i) l h f q
    simp only [Option.getD_some]
    omega
/-- What nanos answers is the part's number of nanoseconds, or none. -/
theorem na_pt (l : List UInt8) (k i : Nat) (hi : fuO (Lib.toUpperA (cpU l)) k = some i) (hr : ¬ (cpD l = true ∧ cpR l ≠ [])) (i7 : i < 7) :
    (∃ m, ptO l k = some (m, i, cpR l) ∧ m ≤ 9223372036854775807 ∧ naV (rnN (cpW l)) (rnP (cpW l)) (frN (qL i) (cpB l)) (frO (qL i) (cpB l)).isSome (cpD l) (bl (cpB l)).toList.isEmpty ((k : Int) == 0) (uL i) (uB i) = .tuple #[.int .i64 (m : Int), .bool true])
    ∨ (naV (rnN (cpW l)) (rnP (cpW l)) (frN (qL i) (cpB l)) (frO (qL i) (cpB l)).isSome (cpD l) (bl (cpB l)).toList.isEmpty ((k : Int) == 0) (uL i) (uB i) = .tuple #[.int .i64 0, .bool false] ∧ (ptO l k = none ∨ ∃ m, ptO l k = some (m, i, cpR l) ∧ 9223372036854775807 < m)) := by
  have lb := qL_bd i
  rw [uL_q i i7, uB_q i i7, q_empty, bl_list]
  unfold naV rnN rnP frN ptO
  by_cases w0 : cpW l = []
  · right
    rw [if_pos w0]
    exact ⟨by rw [w0]; simp, Or.inl rfl⟩
  rw [if_neg w0]
  have we : (cpW l).isEmpty = false := by cases h : cpW l with
    | nil => exact absurd h w0
    | cons a t => rfl
  rw [we]
  cases hn : rnF (cpW l) 0 with
  | none => right; exact ⟨by simp, Or.inl rfl⟩
  | some n =>
    have nb := rnF_bd _ 0 n (by omega) (by omega) hn
    simp only [hi]
    by_cases c1 : cpD l = true ∧ (cpB l = [] ∨ cpR l ≠ [])
    · right
      have b0 : cpB l = [] := by
        rcases c1.2 with h | h
        · exact h
        · exact absurd ⟨c1.1, h⟩ hr
      rw [if_pos c1]
      exact ⟨by rw [if_neg]; rw [b0, c1.1]; simp, Or.inl rfl⟩
    rw [if_neg c1]
    have be : ¬ (cpD l = true ∧ (cpB l).isEmpty = true) := fun h => c1 ⟨h.1, Or.inl (List.isEmpty_iff.mp h.2)⟩
    by_cases c2 : ¬ k = 0 ∧ pM i ≤ n.toNat
    · right
      rw [if_pos c2]
      refine ⟨?_, Or.inl rfl⟩
      rw [if_neg]
      rintro ⟨_, _, _, h, _⟩
      rcases h with h | h
      · simp at h; omega
      · simp at h; omega
    rw [if_neg c2]
    cases hf : frO (qL i) (cpB l) with
    | none => right; exact ⟨by rw [if_neg]; simp, Or.inl rfl⟩
    | some f =>
      have fb := frO_lt (qL i) (cpB l) (cpB_dig l) f hf
      have c2' : ((k : Int) == 0) = true ∨ n < (pM i : Int) := by
        by_cases k0 : k = 0
        · left; subst k0; rfl
        · right; have : ¬ pM i ≤ n.toNat := fun h => c2 ⟨k0, h⟩
          omega
      have eqv : n ≤ (9223372036854775807 - (f : Int)) / (qL i : Int) ↔ n.toNat * qL i + f ≤ 9223372036854775807 := by
        rw [Int.le_ediv_iff_mul_le (by omega)]
        have e : ((n.toNat * qL i : Nat) : Int) = n * (qL i : Int) := by
          rw [Int.natCast_mul, Int.toNat_of_nonneg nb.1]
        generalize n.toNat * qL i = z at *
        rw [← e]
        omega
      have val : n * (qL i : Int) + (f : Int) = ((n.toNat * qL i + f : Nat) : Int) := by
        push_cast
        rw [Int.toNat_of_nonneg nb.1]
      by_cases g : n.toNat * qL i + f ≤ 9223372036854775807
      · left
        refine ⟨n.toNat * qL i + f, rfl, g, ?_⟩
        simp only [Option.getD_some, Option.isSome_some]
        rw [if_pos ⟨by simp, by simp, be, c2', eqv.mpr g⟩, val]
      · right
        refine ⟨?_, Or.inr ⟨_, rfl, by omega⟩⟩
        simp only [Option.getD_some, Option.isSome_some]
        rw [if_neg]
        rintro ⟨_, _, _, _, h⟩
        exact g (eqv.mp h)
/-- A span with its sign, or none. -/
def soV (neg : Bool) (o : Option Nat) : Value := match o with
  | none => .tuple #[.int .i64 0, .bool false]
  | some n => .tuple #[.int .i64 (if neg then -(n : Int) else n), .bool true]
theorem bl_size (l : List UInt8) : (bl l).size = l.length := by show l.toArray.size = _; simp
theorem cp_size (l : List UInt8) : (cpW l).length ≤ l.length ∧ (cpB l).length ≤ l.length ∧ (cpU l).length ≤ l.length ∧ (cpR l).length ≤ l.length := by
  have h1 : (cp1 l).length ≤ l.length := by unfold cp1; simp
  have h2 : (cp2 l).length ≤ l.length := by unfold cp2; split <;> (try simp) <;> omega
  have h3 : (cp3 l).length ≤ l.length := by unfold cp3; split <;> (try simp) <;> omega
  refine ⟨?_, ?_, ?_, ?_⟩
  · unfold cpW; simp; omega
  · unfold cpB; split <;> (try simp) <;> omega
  · unfold cpU; simp; omega
  · unfold cpR; simp; omega
set_option maxRecDepth 100000 in
set_option maxHeartbeats 4000000 in
theorem readSpan_exact (s : ByteArray) (w : World) (hs : s.size ≤ 140737488355328) (u : UT7 w) : Calls Tryd.prog 6 #[.string s] w fun e w' => e = .returned (soV (preB 45 s) (spO (aftB 45 s).data.toList 0 0)) ∧ Below w.heap.size w w' := by
  have U : Hid (UT7 w) := u
  have C1 : Hid _ := fun w => cutPre_of 45 s w (by unfold maxLen; omega)
  have k1 := aftB_size 45 s
  generalize aftB 45 s = t0 at *
  generalize preB 45 s = neg at *
  generalize hR : spO t0.data.toList 0 0 = R
  have HR : Hid (spO t0.data.toList 0 0 = R) := hR
  clear u hR
  go_enter Tryd.func6, Tryd.ntmps6
  go_wp2_with (go_at_call 14; refine (C1.out _).mono ?_; rintro e w2 ⟨rfl, rfl⟩)
  go_loopw [0, 5, 6] (fun sv sp nx wr => ∃ (t : ByteArray) (x k : Nat), sv = .string t ∧ t.size ≤ s.size ∧ sp = .int .i64 x ∧ x ≤ 9223372036854775807 ∧ nx = .int .i64 k ∧ k ≤ 7 ∧ Below w2.heap.size w2 wr ∧ Hid (spO t.data.toList x k = R)) (fun _ _ nx _ => 8 - (intOf nx).toNat)
  case atStart => exact ⟨t0, 0, 0, rfl, k1, rfl, by omega, rfl, by omega, Below.refl _ _, HR⟩
  case round =>
    obtain ⟨t, x, k, rfl, ht, rfl, hx, rfl, hk, hB, HK⟩ := hrel
    have B : Hid (Below w2.heap.size w2 wr) := hB
    have UR : Hid (UT7 wr) := U.out.next hB
    clear hB
    have C2 : Hid _ := fun w => cutPart_is t w (by unfold maxLen; omega)
    have ST : Hid _ := spO_step t.data.toList x k
    have SZ := cp_size t.data.toList
    have tl : t.data.toList.length = t.size := by simp
    rw [tl] at SZ
    obtain ⟨za, zb, zc, zr⟩ := SZ
    rw [← bl_size] at za zb zc zr
    have RN : Hid _ := rnV_q (cpW t.data.toList)
    have RF : Hid (∀ i, _) := fun i => rfV_q (qL i) (cpB t.data.toList) (cpB_dig _)
    have nb := rnN_bd (cpW t.data.toList)
    have FB : Hid (∀ i, _) := fun i => frN_bd i (cpB t.data.toList) (cpB_dig _)
    have AS : Hid (∀ (j : Nat) (y : UInt8), (bl (cpU t.data.toList)).data.toList[j]? = some y → y.toNat < 128) := fun j y hy => by
      rw [bl_list] at hy
      exact cpU_ascii _ y (List.mem_of_getElem? hy)
    have NF : Hid _ := ptO_nofu t.data.toList k
    have NR : Hid _ := ptO_rest t.data.toList k
    have NP : Hid (∀ i, _) := fun i => na_pt t.data.toList k i
    have FU : Hid (∀ w, UT7 w → Calls Tryd.prog 16 #[.string (bl (Lib.toUpperA (cpU t.data.toList))), .int .i64 k] w fun e w' => e = .returned (fuV (fuO (Lib.toUpperA (cpU t.data.toList)) k)) ∧ w' = w) := fun w u => by
      have := findUnit_exact (bl (Lib.toUpperA (cpU t.data.toList))) k w u hk
      rwa [bl_list] at this
    have UB : Hid (∀ i, fuO (Lib.toUpperA (cpU t.data.toList)) k = some i → k ≤ i ∧ i < 7) := fun i h => fuO_bd _ _ _ h
    have er0 : Hid ((bl (cpR t.data.toList)).toList.isEmpty = (cpR t.data.toList).isEmpty) := by show _ = _; rw [q_empty, bl_list]
    have tr0 : Hid ((aftB 95 (bl (cpR t.data.toList))).data.toList = trU (cpR t.data.toList)) := by show _ = _; rw [aftB_list, bl_list]; rfl
    generalize t.data.toList = L at *
    generalize fuO (Lib.toUpperA (cpU L)) k = FO at *
    generalize hUC : Lib.toUpperA (cpU L) = uc at *
    have UC : Hid (Lib.toUpperA (cpU L) = uc) := hUC
    clear hUC
    go_wp2_with fail
    refine (C2.out _).mono ?_
    rintro e w3 ⟨rfl, hb3⟩
    have B3 : Hid (Below w2.heap.size w2 w3) := B.out.trans (hb3.mono B.out.size)
    have U3 : Hid (UT7 w3) := UR.out.next hb3
    clear hb3 B UR
    go_wp2_with fail
    refine (Tryd.strings_ToUpper_ascii (bl (cpU L)) _ (by omega) AS.out).mono ?_
    rintro e w4 ⟨rfl, hb4⟩
    obtain ⟨c4, f4, z4, B4'⟩ := bb1q hb4
    have B4 : Hid (Below w2.heap.size w2 w4) := B3.out.trans (B4'.mono B3.out.size)
    have U4 : Hid (UT7 w4) := U3.out.next B4'
    clear hb4 B4'
    first | rw [bl_list, UC.out] | rw [UC.out]
    go_wp2_with fail
    cases FO with
    | none =>
      have FU0 : Hid (∀ w, UT7 w → Calls Tryd.prog 16 #[.string (bl uc), .int .i64 k] w fun e w' => e = .returned (.tuple #[.int .i64 0, .bool false]) ∧ w' = w) := FU.out
      refine (FU0.out _ U4.out).mono ?_
      rintro e w5 ⟨rfl, rfl⟩
      have E : Hid (R = none) := by
        show _ = _
        rw [← HK.out, ST.out, NF.out rfl]
      go_wp2
      go_returns
      exact ⟨by rw [E.out]; rfl, B4.out⟩
    | some i =>
      have FU0 : Hid (∀ w, UT7 w → Calls Tryd.prog 16 #[.string (bl uc), .int .i64 k] w fun e w' => e = .returned (.tuple #[.int .i64 (i : Int), .bool true]) ∧ w' = w) := FU.out
      refine (FU0.out _ U4.out).mono ?_
      rintro e w5 ⟨rfl, rfl⟩
      obtain ⟨ki, hi⟩ := UB.out i rfl
      obtain ⟨q0, q1, q2⟩ := U4.out i hi
      have bl' := uL_bd i hi
      have ul := uL_q i hi
      have n0 := U4.out.pos
      have i7 : (i : Int) < 7 := by omega
      have fb := FB.out i
      have NN : Hid (∀ (c : ByteArray) w, Calls Tryd.prog 18 #[.agg #[.string (bl (cpW L)), .string (bl (cpB L)), .bool (cpD L), .string c], .agg #[.string (uN i), .int .i64 (uL i), .int .i64 (uB i)], .bool ((k : Int) == 0)] w fun e w' => e = .returned (naV (rnN (cpW L)) (rnP (cpW L)) (frN (qL i) (cpB L)) (frO (qL i) (cpB L)).isSome (cpD L) (bl (cpB L)).toList.isEmpty ((k : Int) == 0) (uL i) (uB i)) ∧ Below w.heap.size w w') := fun c w =>
        nanos_exact _ _ (cpD L) c (uN i) _ _ (uL i) (uB i) _ _ _ (by unfold maxLen; omega) (by unfold maxLen; omega) bl'.1 bl'.2 RN.out (by rw [ul]; exact RF.out i) nb (by omega) w
      have NPi : Hid _ := NP.out i rfl
      clear NP RF FB UB ul fb RN FU C2 AS UC NF
      generalize naV (rnN (cpW L)) (rnP (cpW L)) (frN (qL i) (cpB L)) (frO (qL i) (cpB L)).isSome (cpD L) (bl (cpB L)).toList.isEmpty ((k : Int) == 0) (uL i) (uB i) = NV at *
      generalize bl (cpW L) = a at *
      generalize bl (cpB L) = b at *
      generalize bl (cpU L) = c at *
      by_cases bad : cpD L = true ∧ cpR L ≠ []
      · have E : Hid (R = none) := by
          show _ = _
          rw [← HK.out, ST.out, NR.out bad]
        have er : (bl (cpR L)).toList.isEmpty = false := by
          rw [er0.out]
          cases h : cpR L with
          | nil => exact absurd h bad.2
          | cons y z => rfl
        have ed := bad.1
        rw [ed] at NN
        generalize cpD L = d at *
        subst ed
        generalize bl (cpR L) = r at *
        go_wp2
        go_returns
        exact ⟨by rw [E.out]; rfl, B4.out⟩
      · have NB : Hid _ := NPi.out bad hi
        clear NPi
        have dr : cpD L = false ∨ cpD L = true ∧ (bl (cpR L)).toList.isEmpty = true := by
          cases h : cpD L with
          | false => left; rfl
          | true =>
            right
            refine ⟨rfl, ?_⟩
            rw [er0.out]
            cases h2 : cpR L with
            | nil => rfl
            | cons y z => exact absurd ⟨h, by rw [h2]; simp⟩ bad
        generalize hr : bl (cpR L) = r at *
        have zr' : r.size ≤ t.size := zr
        -- what follows for every way
        have key : ∀ d : Bool, cpD L = d → (d = false ∨ d = true ∧ r.toList.isEmpty = true) → Hid ((∀ (c : ByteArray) w, Calls Tryd.prog 18 #[.agg #[.string a, .string b, .bool d, .string c], .agg #[.string (uN i), .int .i64 (uL i), .int .i64 (uB i)], .bool ((k : Int) == 0)] w fun e w' => e = .returned NV ∧ Below w.heap.size w w')) := fun d h _ => by subst h; exact NN.out
        generalize cpD L = d at *
        have NK : Hid _ := (key d rfl dr).out
        clear key NN bad
        have sm : Hid ((∃ m, (x + m ≤ 9223372036854775807 → (r.toList.isEmpty = true → R = some (x + m)) ∧ (r.toList.isEmpty = false → R = spO (trU (cpR L)) (x + m) (i + 1))) ∧ (9223372036854775807 < x + m → R = none) ∧ m ≤ 9223372036854775807 ∧ NV = .tuple #[.int .i64 (m : Int), .bool true]) ∨ (NV = .tuple #[.int .i64 0, .bool false] ∧ R = none)) := by
          rcases NB.out with ⟨m, hm, m1, hv⟩ | ⟨hv, ho⟩
          · left
            have sR : R = if x + m ≤ 9223372036854775807 then (if cpR L = [] then some (x + m) else spO (trU (cpR L)) (x + m) (i + 1)) else none := by
              rw [← HK.out, ST.out, hm]
            refine ⟨m, fun g => ⟨fun h => ?_, fun h => ?_⟩, fun g => ?_, m1, hv⟩
            · rw [er0.out] at h
              rw [sR, if_pos g, if_pos (List.isEmpty_iff.mp h)]
            · rw [er0.out] at h
              rw [sR, if_pos g, if_neg (fun q => by rw [q] at h; cases h)]
            · rw [sR, if_neg (by omega)]
          · right
            refine ⟨hv, ?_⟩
            rcases ho with ho | ⟨m, ho, hm⟩
            · rw [← HK.out, ST.out, ho]
            · rw [← HK.out, ST.out, ho]
              simp only
              rw [if_neg (by omega)]
        clear NB ST HK NR
        have T : Hid _ := fun w => trimPre_of 95 r w (by unfold maxLen; omega)
        have kt := aftB_size 95 r
        generalize hr2 : aftB 95 r = r2 at *
        rcases sm.out with ⟨m, h1, h2, m1, rfl⟩ | ⟨rfl, rfl⟩
        · have H1 : Hid _ := h1
          have H2 : Hid _ := h2
          clear h1 h2 sm
          rcases dr with rfl | ⟨rfl, er⟩
          · cases er : r.toList.isEmpty
            · go_wp2_with fail
              refine wp_region_sub2 (by kernel_rfl) (by kernel_rfl) ?_
              intro cx
              repeat (first | go_big_quiet_skip | (go_big_quiet_want; go_big_quiet_op; first | go_big_quiet_on | (refine ⟨_, fun _ => rfl, ?_⟩; go_big_quiet_on) | go_big_quiet_call (first | (go_at_call 18; exact calls_sub (NK.out _ _)))))
              refine wpQuiet_nil ?_
              rintro _ ⟨y, rfl⟩
              have B5 : Hid (Below w2.heap.size w2 y.w) := B4.out.trans (y.h.mono B4.out.size)
              clear cx
              by_cases big : x + m ≤ 9223372036854775807
              · have E : Hid _ := (H1.out big).2 er
                go_wp2_with (go_at_call 19; refine (T.out _).mono ?_; rintro e w6 ⟨rfl, rfl⟩)
                go_roundw
                case rel =>
                  go_light
                  exact ⟨r2, x + m, i + 1, rfl, by omega, by go_num, big, by go_num, by omega, B5.out, by show _ = _; rw [tr0.out, E.out]⟩
                case measure => simp [intOf]; omega
              · have E : Hid (R = none) := H2.out (by omega)
                go_wp2
                go_returns
                exact ⟨by rw [E.out]; rfl, B5.out⟩
            · go_wp2_with fail
              refine wp_region_sub2 (by kernel_rfl) (by kernel_rfl) ?_
              intro cx
              repeat (first | go_big_quiet_skip | (go_big_quiet_want; go_big_quiet_op; first | go_big_quiet_on | (refine ⟨_, fun _ => rfl, ?_⟩; go_big_quiet_on) | go_big_quiet_call (first | (go_at_call 18; exact calls_sub (NK.out _ _)))))
              refine wpQuiet_nil ?_
              rintro _ ⟨y, rfl⟩
              have B5 : Hid (Below w2.heap.size w2 y.w) := B4.out.trans (y.h.mono B4.out.size)
              clear cx
              by_cases big : x + m ≤ 9223372036854775807
              · have E : Hid _ := (H1.out big).1 er
                cases neg
                · go_wp2
                  go_returns
                  exact ⟨by rw [E.out]; simp [soV], B5.out⟩
                · go_wp2
                  go_returns
                  exact ⟨by rw [E.out]; simp [soV], B5.out⟩
              · have E : Hid (R = none) := H2.out (by omega)
                go_wp2
                go_returns
                exact ⟨by rw [E.out]; rfl, B5.out⟩
          · go_wp2_with fail
            refine wp_region_sub2 (by kernel_rfl) (by kernel_rfl) ?_
            intro cx
            repeat (first | go_big_quiet_skip | (go_big_quiet_want; go_big_quiet_op; first | go_big_quiet_on | (refine ⟨_, fun _ => rfl, ?_⟩; go_big_quiet_on) | go_big_quiet_call (first | (go_at_call 18; exact calls_sub (NK.out _ _)))))
            refine wpQuiet_nil ?_
            rintro _ ⟨y, rfl⟩
            have B5 : Hid (Below w2.heap.size w2 y.w) := B4.out.trans (y.h.mono B4.out.size)
            clear cx
            by_cases big : x + m ≤ 9223372036854775807
            · have E : Hid _ := (H1.out big).1 er
              cases neg
              · go_wp2
                go_returns
                exact ⟨by rw [E.out]; simp [soV], B5.out⟩
              · go_wp2
                go_returns
                exact ⟨by rw [E.out]; simp [soV], B5.out⟩
            · have E : Hid (R = none) := H2.out (by omega)
              go_wp2
              go_returns
              exact ⟨by rw [E.out]; rfl, B5.out⟩
        · clear sm
          rcases dr with rfl | ⟨rfl, er⟩
          · cases er : r.toList.isEmpty
            all_goals
              go_wp2_with fail
              refine wp_region_sub2 (by kernel_rfl) (by kernel_rfl) ?_
              intro cx
              repeat (first | go_big_quiet_skip | (go_big_quiet_want; go_big_quiet_op; first | go_big_quiet_on | (refine ⟨_, fun _ => rfl, ?_⟩; go_big_quiet_on) | go_big_quiet_call (first | (go_at_call 18; exact calls_sub (NK.out _ _)))))
              refine wpQuiet_nil ?_
              rintro _ ⟨y, rfl⟩
              have B5 : Hid (Below w2.heap.size w2 y.w) := B4.out.trans (y.h.mono B4.out.size)
              clear cx
              go_wp2
              go_returns
              exact ⟨rfl, B5.out⟩
          · go_wp2_with fail
            refine wp_region_sub2 (by kernel_rfl) (by kernel_rfl) ?_
            intro cx
            repeat (first | go_big_quiet_skip | (go_big_quiet_want; go_big_quiet_op; first | go_big_quiet_on | (refine ⟨_, fun _ => rfl, ?_⟩; go_big_quiet_on) | go_big_quiet_call (first | (go_at_call 18; exact calls_sub (NK.out _ _)))))
            refine wpQuiet_nil ?_
            rintro _ ⟨y, rfl⟩
            have B5 : Hid (Below w2.heap.size w2 y.w) := B4.out.trans (y.h.mono B4.out.size)
            clear cx
            go_wp2
            go_returns
            exact ⟨rfl, B5.out⟩
end Go.Proofs.YtpdnlojennhmpaaDoor
